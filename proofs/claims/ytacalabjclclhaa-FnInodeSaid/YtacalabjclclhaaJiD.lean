/- Joined texts: plain facts and contracts, as each part says. -/
import Derived.Test.YtacalabjclclhaaJiC
import Derived.Test.YtacalabjclclhaaJtB
import Derived.Test.YtacalabjclclhaaJtG
import Derived.Test.YtacalabjclclhaaJtH
import Derived.Deep.DeepCutAuto
import Derived.Deep.RegionHeld3

/- The walk of laws.FnInode: it answers true, and writes new memory alone. -/
namespace Go.Proofs.Ytacalabjclclhaa.D8
open Go.ChangeShapes Go.WideShapes Go.ChangeAt Go.RowKit C0 S0
open I0 (val vals)
set_option linter.unusedVariables false
set_option linter.unusedSimpArgs false

theorem tr {w wk w' : World} (f : Below w.heap.size w wk) (b : Below wk.heap.size wk w') : Below w.heap.size w w' := f.trans (b.mono f.size)

abbrev ev (i : Int) (s : ByteArray) : Value := .agg #[.int .i64 i, .string s]
abbrev evs (i : Int) (s : ByteArray) : List Value := [.int .i64 i, .string s]

/-- What the law keeps: three inodes with their pages, three entries, in their cells. -/
structure Fi (w : World) (p ax ay : Option Addr) (zs Z : List Int) (B1 B2 B3 B4 B5 B6 : Nat) (k o s K O S : Int) (cp cx cy : Nat) (i : Int) (nm : ByteArray) (I : Int) (N : ByteArray) (W : World) : Prop where
  r1 : P0.Row W p zs
  r2 : P0.Row W ax Z
  r3 : P0.Row W ay Z
  k1 : K0.Blk B1 (vals k o s p zs.length cp) W
  k2 : K0.Blk B2 (vals K O S ax Z.length cx) W
  k3 : K0.Blk B3 (vals K O S ay Z.length cy) W
  k4 : K0.Blk B4 (evs i nm) W
  k5 : K0.Blk B5 (evs I N) W
  k6 : K0.Blk B6 (evs I N) W
  bel : Below w.heap.size w W

theorem Fi.below {w W W' : World} {p ax ay : Option Addr} {zs Z : List Int} {B1 B2 B3 B4 B5 B6 : Nat} {k o s K O S : Int} {cp cx cy : Nat} {i : Int} {nm : ByteArray} {I : Int} {N : ByteArray} (h : Fi w p ax ay zs Z B1 B2 B3 B4 B5 B6 k o s K O S cp cx cy i nm I N W) (hb : Below W.heap.size W W') :
    Fi w p ax ay zs Z B1 B2 B3 B4 B5 B6 k o s K O S cp cx cy i nm I N W' := ⟨h.r1.below hb, h.r2.below hb, h.r3.below hb, h.k1.below hb, h.k2.below hb, h.k3.below hb, h.k4.below hb, h.k5.below hb, h.k6.below hb, tr h.bel hb⟩

theorem Fi.cells {w W : World} {p ax ay : Option Addr} {zs Z : List Int} {B1 B2 B3 B4 B5 B6 : Nat} {k o s K O S : Int} {cp cx cy : Nat} {i : Int} {nm : ByteArray} {I : Int} {N : ByteArray} (h : Fi w p ax ay zs Z B1 B2 B3 B4 B5 B6 k o s K O S cp cx cy i nm I N W) : W.cell? ⟨B1, 0, none⟩ = some (.int .i64 k) ∧ W.cell? ⟨B1, 1, none⟩ = some (.int .i64 o) ∧ W.cell? ⟨B1, 2, none⟩ = some (.int .i64 s) ∧ W.cell? ⟨B1, 3, none⟩ = some (.slice p zs.length cp) ∧ W.cell? ⟨B2, 0, none⟩ = some (.int .i64 K) ∧ W.cell? ⟨B2, 1, none⟩ = some (.int .i64 O) ∧ W.cell? ⟨B2, 2, none⟩ = some (.int .i64 S) ∧ W.cell? ⟨B2, 3, none⟩ = some (.slice ax Z.length cx) ∧ W.cell? ⟨B3, 0, none⟩ = some (.int .i64 K) ∧ W.cell? ⟨B3, 1, none⟩ = some (.int .i64 O) ∧ W.cell? ⟨B3, 2, none⟩ = some (.int .i64 S) ∧ W.cell? ⟨B3, 3, none⟩ = some (.slice ay Z.length cy) ∧ W.cell? ⟨B4, 0, none⟩ = some (.int .i64 i) ∧ W.cell? ⟨B4, 1, none⟩ = some (.string nm) ∧ W.cell? ⟨B5, 0, none⟩ = some (.int .i64 I) ∧ W.cell? ⟨B5, 1, none⟩ = some (.string N) ∧ W.cell? ⟨B6, 0, none⟩ = some (.int .i64 I) ∧ W.cell? ⟨B6, 1, none⟩ = some (.string N) := ⟨h.k1.c0, h.k1.c1, h.k1.c2, h.k1.c3, h.k2.c0, h.k2.c1, h.k2.c2, h.k2.c3, h.k3.c0, h.k3.c1, h.k3.c2, h.k3.c3, h.k4.c0, h.k4.c1, h.k5.c0, h.k5.c1, h.k6.c0, h.k6.c1⟩
theorem Fi.drew {w W : World} {p ax ay : Option Addr} {zs Z : List Int} {B1 B2 B3 B4 B5 B6 : Nat} {k o s K O S : Int} {cp cx cy : Nat} {i : Int} {nm : ByteArray} {I : Int} {N : ByteArray} (h : Fi w p ax ay zs Z B1 B2 B3 B4 B5 B6 k o s K O S cp cx cy i nm I N W) : Fi w p ax ay zs Z B1 B2 B3 B4 B5 B6 k o s K O S cp cx cy i nm I N W.drew := h.below ((Below.refl _ _).drew)

theorem gZ_len (u : ByteArray) : (G0.gZ u).length ≤ 100 := by
  unfold G0.gZ
  split
  · rw [G0.pgs_length]
    have := G0.cnt_le u
    omega
  · exact Nat.zero_le _

theorem putI_not {k o s : Int} {zs : List Int} (h : ¬ (R0.putI k o s zs).toList = []) : (R0.putI k o s zs).size = 16 ∧ G0.isI (R0.putI k o s zs) = true ∧ G0.gK (R0.putI k o s zs) = k ∧ G0.gO (R0.putI k o s zs) = o ∧ G0.gS (R0.putI k o s zs) = s ∧ G0.gZ (R0.putI k o s zs) = zs := by
  cases hd : I0.ok k o s zs with
  | true => exact ⟨Z0.putI_size16 hd, Z0.isI_put hd⟩
  | false =>
    exfalso
    apply h
    rw [R0.putI, hd, if_neg (by decide), Lib.toList_data]

theorem putE_not {i : Int} {s : ByteArray} (h : ¬ (E0.putE i s).toList = []) : (E0.putE i s).size = 16 ∧ E4.isE (E0.putE i s) = true ∧ E4.eIno (E0.putE i s) = i ∧ E4.eName (E0.putE i s) = s := by
  cases hd : E0.entryOk i s with
  | true => exact ⟨T0.putE_size16 hd, Z0.isE_put hd⟩
  | false =>
    exfalso
    apply h
    rw [E0.putE, hd, if_neg (by decide), Lib.toList_data]

theorem putE_nil {i : Int} {s : ByteArray} (h : (E0.putE i s).toList = []) : E0.entryOk i s = false := by
  cases hd : E0.entryOk i s with
  | false => rfl
  | true =>
    have h1 := T0.putE_size16 hd
    rw [Lib.toList_data] at h
    rw [Lib.size_eq, h] at h1
    cases h1

set_option maxHeartbeats 0 in
set_option maxRecDepth 100000 in
theorem walk_small (a : Option Addr) (len cap : Nat) (w : World) (hc : Given w a len) (hl : len ≤ 1048576) :
    Calls Try.prog 3 #[.slice a len cap] w fun e w' => e = .returned (.bool true) ∧ Below w.heap.size w w' := by
  have hbig : ¬ 1048576 < (len : Int) := by omega
  have eG : ∀ v, E4.getE v = .tuple #[ev (E4.eIno v) (E4.eName v), .bool (E4.isE v)] := fun v => rfl
  go_enter Try.func3, Try.ntmps3
  go_upto_region 13 with (first
    | (go_at_call 17; refine (Q0.big_no a len cap w hbig).mono ?_; rintro e wb ⟨rfl, rfl⟩)
    | (go_at_call 18; refine (C1.draw_PutInode hc hl).mono ?_; rintro e w1 ⟨k, o, s, p, cp, zs, hzs, rfl, ra, hcp, b1⟩; have n1 := K0.below_new w1 (.cells #[.int .i64 k, .int .i64 o, .int .i64 s, .slice p zs.length cp] 26); have k1 := K0.blk_new (vals k o s p zs.length cp) w1 26; have ra := ra.below n1; have f1 := tr b1 n1)
    | (go_at_call 19; refine (R1.impl_PutInode k o s p cp zs _ (by omega) hcp ra).mono ?_; rintro e w2 ⟨rfl, b2⟩; have ra := ra.below b2; have k1 := k1.below b2; have f2 := tr f1 b2)
    | (go_at_call 20; refine (C1.draw_GetInode (hc.below f2) hl).mono ?_; rintro e w3 ⟨u, hu, rfl, b3⟩; have ra := ra.below b3; have k1 := k1.below b3; have f3 := tr f2 b3)
    | (go_at_call 21; refine (G3.impl_GetInode u _ (by omega)).mono ?_; rintro e w4 ⟨ax, cx, rfl, ox, lx, b4⟩; have n4 := K0.below_new w4 (.cells #[.int .i64 (G0.gK u), .int .i64 (G0.gO u), .int .i64 (G0.gS u), .slice ax (G0.gZ u).length cx] 26); have k2 := K0.blk_new (vals (G0.gK u) (G0.gO u) (G0.gS u) ax (G0.gZ u).length cx) w4 26; have rb := ox.row.below n4; have ra := (ra.below b4).below n4; have k1 := (k1.below b4).below n4; have f4 := tr (tr f3 b4) n4)
    | (go_at_call 22; refine (G4.spec_GetInode u _ (by omega)).mono ?_; rintro e w5 ⟨ay, cy, rfl, oy, ly, b5⟩; have n5 := K0.below_new w5 (.cells #[.int .i64 (G0.gK u), .int .i64 (G0.gO u), .int .i64 (G0.gS u), .slice ay (G0.gZ u).length cy] 26); have k3 := K0.blk_new (vals (G0.gK u) (G0.gO u) (G0.gS u) ay (G0.gZ u).length cy) w5 26; have rc := oy.row.below n5; have ra := (ra.below b5).below n5; have k1 := (k1.below b5).below n5; have rb := (rb.below b5).below n5; have k2 := (k2.below b5).below n5; have f5 := tr (tr f4 b5) n5)
    | (go_at_call 23; refine (C1.draw_PutEntry (hc.below f5) hl).mono ?_; rintro e w6 ⟨i, nm, hnm, rfl, b6⟩; have n6 := K0.below_new w6 (.cells #[.int .i64 i, .string nm] 33); have k4 := K0.blk_new (evs i nm) w6 33; have ra := (ra.below b6).below n6; have k1 := (k1.below b6).below n6; have rb := (rb.below b6).below n6; have k2 := (k2.below b6).below n6; have rc := (rc.below b6).below n6; have k3 := (k3.below b6).below n6; have f6 := tr (tr f5 b6) n6)
    | (go_at_call 24; refine (E2.impl_PutEntry i nm _ (by omega)).mono ?_; rintro e w7 ⟨rfl, b7⟩; have ra := ra.below b7; have k1 := k1.below b7; have rb := rb.below b7; have k2 := k2.below b7; have rc := rc.below b7; have k3 := k3.below b7; have k4 := k4.below b7; have f7 := tr f6 b7)
    | (go_at_call 25; refine (C1.draw_GetEntry (hc.below f7) hl).mono ?_; rintro e w8 ⟨v, hv, rfl, b8⟩; have ra := ra.below b8; have k1 := k1.below b8; have rb := rb.below b8; have k2 := k2.below b8; have rc := rc.below b8; have k3 := k3.below b8; have k4 := k4.below b8; have f8 := tr f7 b8)
    | (go_at_call 26; refine (E4.impl_GetEntry v _ (by omega)).mono ?_; rintro e w9 ⟨rfl, b9⟩; rw [eG]; have n9 := K0.below_new w9 (.cells #[.int .i64 (E4.eIno v), .string (E4.eName v)] 33); have k5 := K0.blk_new (evs (E4.eIno v) (E4.eName v)) w9 33; have ra := (ra.below b9).below n9; have k1 := (k1.below b9).below n9; have rb := (rb.below b9).below n9; have k2 := (k2.below b9).below n9; have rc := (rc.below b9).below n9; have k3 := (k3.below b9).below n9; have k4 := (k4.below b9).below n9; have f9 := tr (tr f8 b9) n9)
    | (go_at_call 27; refine (E4.spec_GetEntry v _ (by omega)).mono ?_; rintro e wa ⟨rfl, ba⟩; rw [eG]; have na := K0.below_new wa (.cells #[.int .i64 (E4.eIno v), .string (E4.eName v)] 33); have k6 := K0.blk_new (evs (E4.eIno v) (E4.eName v)) wa 33; have fa := tr (tr f9 ba) na; have fi : Fi wb p ax ay zs (G0.gZ u) w1.heap.size w4.heap.size w5.heap.size w6.heap.size w9.heap.size wa.heap.size k o s (G0.gK u) (G0.gO u) (G0.gS u) cp cx cy i nm (E4.eIno v) (E4.eName v) (wa.alloc (.cells #[.int .i64 (E4.eIno v), .string (E4.eName v)] 33)) := ⟨(ra.below ba).below na, (rb.below ba).below na, (rc.below ba).below na, (k1.below ba).below na, (k2.below ba).below na, (k3.below ba).below na, (k4.below ba).below na, (k5.below ba).below na, k6, fa⟩))
  have hZl := gZ_len u
  have hput : G0.isI u = true → R0.putI (G0.gK u) (G0.gO u) (G0.gS u) (G0.gZ u) = u := Z0.putI_get
  have hputE : E4.isE v = true → E0.putE (E4.eIno v) (E4.eName v) = v := Z0.putE_get
  have hN : (E4.eName v).size ≤ 281474976710656 := by
    unfold E4.eName
    split
    · exact Nat.le_trans (B2.part_size _ _ _) (by omega)
    · exact Nat.zero_le _
  have hnot := putI_not (k := k) (o := o) (s := s) (zs := zs)
  have hnotE := putE_not (i := i) (s := nm)
  have hnil := putE_nil (i := i) (s := nm)
  have hsz : (R0.putI k o s zs).size ≤ 100000 := C1.putI_small _ _ _ _
  have hsz2 : (E0.putE i nm).size ≤ 100000 := C1.putE_small _ _
  have sPI : Hid (∀ W, P0.Row W p zs → Calls Try.prog 29 #[val k o s p zs.length cp] W fun e w' => e = .returned (.string (R0.putI k o s zs)) ∧ Below W.heap.size W w') := fun W hW => R2.spec_PutInode k o s p cp zs W (by omega) hcp hW
  have iPI : Hid (G0.isI u = true → ∀ W, P0.Row W ax (G0.gZ u) → Calls Try.prog 19 #[val (G0.gK u) (G0.gO u) (G0.gS u) ax (G0.gZ u).length cx] W fun e w' => e = .returned (.string u) ∧ Below W.heap.size W w') := fun hd W hW => (R1.impl_PutInode _ _ _ ax cx (G0.gZ u) W (by omega) lx hW).mono fun _ _ ⟨he, hb⟩ => ⟨by rw [he, hput hd], hb⟩
  have sPE : Hid (∀ W, Calls Try.prog 31 #[ev i nm] W fun e w' => e = .returned (.string (E0.putE i nm)) ∧ Below W.heap.size W w') := fun W => E2.spec_PutEntry i nm W (by omega)
  have iPE : Hid (E4.isE v = true → ∀ W, Calls Try.prog 24 #[ev (E4.eIno v) (E4.eName v)] W fun e w' => e = .returned (.string v) ∧ Below W.heap.size W w') := fun hd W => (E2.impl_PutEntry _ _ W hN).mono fun _ _ ⟨he, hb⟩ => ⟨by rw [he, hputE hd], hb⟩
  have iOk : Hid (∀ W, P0.Row W p zs → Calls Try.prog 32 #[val k o s p zs.length cp] W fun e w' => e = .returned (.bool (I0.ok k o s zs)) ∧ Below W.heap.size W w') := fun W hW => I1.impl_InodeOk k o s p cp zs W (by omega) hcp hW
  have sOk : Hid (∀ W, P0.Row W p zs → Calls Try.prog 33 #[val k o s p zs.length cp] W fun e w' => e = .returned (.bool (I0.ok k o s zs)) ∧ Below W.heap.size W w') := fun W hW => I1.spec_InodeOk k o s p cp zs W (by omega) hcp hW
  have iEO : Hid (∀ W, Calls Try.prog 34 #[ev i nm] W fun e w' => e = .returned (.bool (E0.entryOk i nm)) ∧ Below W.heap.size W w') := fun W => E1.impl_EntryOk i nm W (by omega)
  have sEO : Hid (∀ W, Calls Try.prog 35 #[ev i nm] W fun e w' => e = .returned (.bool (E0.entryOk i nm)) ∧ Below W.heap.size W w') := fun W => (E1.spec_EntryOk i nm W (by omega)).mono fun _ _ ⟨he, hb⟩ => ⟨he, by rw [hb]; exact K0.below_new _ _⟩
  have iGI : Hid (¬ (R0.putI k o s zs).toList = [] → ∀ W, Calls Try.prog 21 #[.string (R0.putI k o s zs)] W fun e w' => ∃ a5 c5, e = .returned (.tuple #[val k o s a5 zs.length c5, .bool true]) ∧ P0.Row w' a5 zs ∧ Below W.heap.size W w') := fun hd W => by
    obtain ⟨-, h2, h3, h4, h5, h6⟩ := hnot hd
    refine (G3.impl_GetInode _ W (by omega)).mono ?_
    rintro e w' ⟨a5, c5, he, ho5, -, hb⟩
    rw [h2, h3, h4, h5, h6] at he
    rw [h6] at ho5
    exact ⟨a5, c5, he, ho5.row, hb⟩
  have iGE : Hid (¬ (E0.putE i nm).toList = [] → ∀ W, Calls Try.prog 26 #[.string (E0.putE i nm)] W fun e w' => e = .returned (.tuple #[ev i nm, .bool true]) ∧ Below W.heap.size W w') := fun hd W => by
    obtain ⟨-, h2, h3, h4⟩ := hnotE hd
    refine (E4.impl_GetEntry _ W (by omega)).mono ?_
    rintro e w' ⟨he, hb⟩
    rw [eG, h2, h3, h4] at he
    exact ⟨he, hb⟩
  have hsv16 : ¬ (R0.putI k o s zs).toList = [] → (((R0.putI k o s zs).size : Int) != 16) = false := fun hd => by rw [(hnot hd).1]; rfl
  have hpv16 : ¬ (E0.putE i nm).toList = [] → (((E0.putE i nm).size : Int) == 16) = true := fun hd => by rw [(hnotE hd).1]; rfl
  obtain ⟨Z, hZ⟩ : ∃ Z, G0.gZ u = Z := ⟨_, rfl⟩
  obtain ⟨K, hK⟩ : ∃ K, G0.gK u = K := ⟨_, rfl⟩
  obtain ⟨O, hO⟩ : ∃ O, G0.gO u = O := ⟨_, rfl⟩
  obtain ⟨S, hS⟩ : ∃ S, G0.gS u = S := ⟨_, rfl⟩
  obtain ⟨bi, hbi⟩ : ∃ b, G0.isI u = b := ⟨_, rfl⟩
  obtain ⟨I, hI⟩ : ∃ I, E4.eIno v = I := ⟨_, rfl⟩
  obtain ⟨N, hNN⟩ : ∃ N, E4.eName v = N := ⟨_, rfl⟩
  obtain ⟨be, hbe⟩ : ∃ b, E4.isE v = b := ⟨_, rfl⟩
  obtain ⟨sv, hsv⟩ : ∃ sv, R0.putI k o s zs = sv := ⟨_, rfl⟩
  obtain ⟨pv, hpv⟩ : ∃ pv, E0.putE i nm = pv := ⟨_, rfl⟩
  obtain ⟨b1', hb1'⟩ : ∃ b, I0.ok k o s zs = b := ⟨_, rfl⟩
  obtain ⟨b2', hb2'⟩ : ∃ b, E0.entryOk i nm = b := ⟨_, rfl⟩
  obtain ⟨B1, hB1⟩ : ∃ B, w1.heap.size = B := ⟨_, rfl⟩
  obtain ⟨B2, hB2⟩ : ∃ B, w4.heap.size = B := ⟨_, rfl⟩
  obtain ⟨B3, hB3⟩ : ∃ B, w5.heap.size = B := ⟨_, rfl⟩
  obtain ⟨B4, hB4⟩ : ∃ B, w6.heap.size = B := ⟨_, rfl⟩
  obtain ⟨B5, hB5⟩ : ∃ B, w9.heap.size = B := ⟨_, rfl⟩
  obtain ⟨B6, hB6⟩ : ∃ B, wa.heap.size = B := ⟨_, rfl⟩
  simp only [hZ, hK, hO, hS, hbi, hI, hNN, hbe, hsv, hpv, hb1', hb2', hB1, hB2, hB3, hB4, hB5, hB6] at fi hZl sPI iPI sPE iPE iOk sOk iEO sEO iGI iGE hsv16 hpv16 hnil ⊢
  have sI : Hid (∀ W, P0.Row W ax Z → P0.Row W ay Z → Calls Try.prog 30 #[val K O S ax Z.length cx, val K O S ay Z.length cy] W fun e w' => e = .returned (.bool true) ∧ Below W.heap.size W w') := fun W h1 h2 => sameInode K O S ax ay cx cy Z W (by omega) h1 h2
  have sI2 : Hid (∀ a5 c5 W, P0.Row W a5 zs → P0.Row W p zs → Calls Try.prog 30 #[val k o s a5 zs.length c5, val k o s p zs.length cp] W fun e w' => e = .returned (.bool true) ∧ Below W.heap.size W w') := fun a5 c5 W h1 h2 => sameInode k o s a5 p c5 cp zs W (by omega) h1 h2
  have hcb : Hid (∀ W, Below wb.heap.size wb W → Given W a len) := fun W hb => hc.below hb
  obtain ⟨W9, hW9⟩ : ∃ W9, wa.alloc (.cells #[.int .i64 I, .string N] 33) = W9 := ⟨_, rfl⟩
  rw [hW9] at fi ⊢
  have e1 : (b1' != b1') = false := by simp
  have e2 : (b2' != b2') = false := by simp
  clear hW9 hZ hK hO hS hbi hI hNN hbe hsv hpv hb1' hb2' hB1 hB2 hB3 hB4 hB5 hB6 hput hputE hnot hnotE hN hsz hsz2 ra rb rc k1 k2 k3 k4 k5 k6 f1 f2 f3 f4 f5 f6 f7 f8 f9 fa n1 n4 n5 n6 n9 na b1 b2 b3 b4 b5 b6 b7 b8 b9 ba ox oy lx ly eG
  go_wp2_with (go_at_call 28; refine (C1.draw_RecAt (hcb.out _ fi.bel) hl).mono ?_; rintro e v0 ⟨ri, rfl, hb⟩; have g := fi.below hb)
  have g := g.drew
  have sx := g.cells
  have hu : ∀ x : ByteArray, (x.toList != x.toList) = false := fun x => by simp
  have er : (L1.recAt ri != L1.recAt ri) = false := by simp
  clear fi hb hcb
  simp only [List.append]
  have s0 := g.cells
  clear sx
  cases bi
  · cases be
    · skip
      refine wp_region_held (S := fun W => W.cell? ⟨B1, 0, none⟩ = some (.int .i64 k) ∧ W.cell? ⟨B1, 1, none⟩ = some (.int .i64 o) ∧ W.cell? ⟨B1, 2, none⟩ = some (.int .i64 s) ∧ W.cell? ⟨B1, 3, none⟩ = some (.slice p zs.length cp) ∧ W.cell? ⟨B2, 0, none⟩ = some (.int .i64 K) ∧ W.cell? ⟨B2, 1, none⟩ = some (.int .i64 O) ∧ W.cell? ⟨B2, 2, none⟩ = some (.int .i64 S) ∧ W.cell? ⟨B2, 3, none⟩ = some (.slice ax Z.length cx) ∧ W.cell? ⟨B3, 0, none⟩ = some (.int .i64 K) ∧ W.cell? ⟨B3, 1, none⟩ = some (.int .i64 O) ∧ W.cell? ⟨B3, 2, none⟩ = some (.int .i64 S) ∧ W.cell? ⟨B3, 3, none⟩ = some (.slice ay Z.length cy) ∧ W.cell? ⟨B4, 0, none⟩ = some (.int .i64 i) ∧ W.cell? ⟨B4, 1, none⟩ = some (.string nm) ∧ W.cell? ⟨B5, 0, none⟩ = some (.int .i64 I) ∧ W.cell? ⟨B5, 1, none⟩ = some (.string N) ∧ W.cell? ⟨B6, 0, none⟩ = some (.int .i64 I) ∧ W.cell? ⟨B6, 1, none⟩ = some (.string N)) (by kernel_rfl) ?_
      refine wpAnyH_take (i := 0) (v := .string sv) rfl (by kernel_rfl) (by kernel_rfl) (by kernel_rfl) (fun _ _ _ h => h) (Or.inl ⟨by rfl, fun w' hS' => by rfl⟩) s0 ?_
      simp only [List.getElem_toArray, List.getElem_cons_succ, List.getElem_cons_zero, Act.put, List.setIfInBounds_toArray, List.set_cons_succ, List.set_cons_zero, Nat.reduceAdd]
      refine wpAnyH_take (i := 1) (v := val k o s p zs.length cp) rfl (by kernel_rfl) (by kernel_rfl) (by kernel_rfl) (fun _ _ _ h => h) (Or.inl ⟨by rfl, fun w' hS' => ?_⟩) s0 ?_
      · obtain ⟨q0, q1, q2, q3, q4, q5, q6, q7, q8, q9, q10, q11, q12, q13, q14, q15, q16, q17⟩ := hS'
        go_simp
      simp only [List.getElem_toArray, List.getElem_cons_succ, List.getElem_cons_zero, Act.put, List.setIfInBounds_toArray, List.set_cons_succ, List.set_cons_zero, Nat.reduceAdd]
      refine Y0.one_callw (i := 2) (by kernel_rfl) rfl (by rfl) (.tmp 59) _ rfl (val k o s p zs.length cp) (by rfl) (enters_of Try.func29 (by kernel_rfl) rfl) ((sPI.out _ g.r1).mono ?_)
      rintro e v1 ⟨rfl, hb1⟩
      have g1 := g.below hb1
      have s1 := g1.cells
      refine ⟨_, rfl, s1, ?_⟩
      simp only [List.getElem_toArray, List.getElem_cons_succ, List.getElem_cons_zero, Act.put, List.setIfInBounds_toArray, List.set_cons_succ, List.set_cons_zero, Nat.reduceAdd]
      refine wpAnyH_take (i := 3) (v := .bool false) rfl (by kernel_rfl) (by kernel_rfl) (by kernel_rfl) (fun _ _ _ h => h) (Or.inl ⟨by rfl, fun w' hS' => ?_⟩) s1 ?_
      · obtain ⟨q0, q1, q2, q3, q4, q5, q6, q7, q8, q9, q10, q11, q12, q13, q14, q15, q16, q17⟩ := hS'
        go_simp
      simp only [List.getElem_toArray, List.getElem_cons_succ, List.getElem_cons_zero, Act.put, List.setIfInBounds_toArray, List.set_cons_succ, List.set_cons_zero, Nat.reduceAdd]
      refine wpAnyH_take (i := 4) (v := .bool false) rfl (by kernel_rfl) (by kernel_rfl) (by kernel_rfl) (fun _ _ _ h => h) (Or.inl ⟨by rfl, fun w' hS' => by rfl⟩) s1 ?_
      simp only [List.getElem_toArray, List.getElem_cons_succ, List.getElem_cons_zero, Act.put, List.setIfInBounds_toArray, List.set_cons_succ, List.set_cons_zero, Nat.reduceAdd]
      refine wpAnyH_take (i := 5) (v := .bool false) rfl (by kernel_rfl) (by kernel_rfl) (by kernel_rfl) (fun _ _ _ h => h) (Or.inl ⟨by rfl, fun w' hS' => by rfl⟩) s1 ?_
      simp only [List.getElem_toArray, List.getElem_cons_succ, List.getElem_cons_zero, Act.put, List.setIfInBounds_toArray, List.set_cons_succ, List.set_cons_zero, Nat.reduceAdd]
      refine wpAnyH_take (i := 6) (v := .bool false) rfl (by kernel_rfl) (by kernel_rfl) (by kernel_rfl) (fun _ _ _ h => h) (Or.inl ⟨by rfl, fun w' hS' => by rfl⟩) s1 ?_
      simp only [List.getElem_toArray, List.getElem_cons_succ, List.getElem_cons_zero, Act.put, List.setIfInBounds_toArray, List.set_cons_succ, List.set_cons_zero, Nat.reduceAdd]
      refine wpAnyH_take (i := 7) (v := .bool false) rfl (by kernel_rfl) (by kernel_rfl) (by kernel_rfl) (fun _ _ _ h => h) (Or.inl ⟨by rfl, fun w' hS' => ?_⟩) s1 ?_
      · obtain ⟨q0, q1, q2, q3, q4, q5, q6, q7, q8, q9, q10, q11, q12, q13, q14, q15, q16, q17⟩ := hS'
        go_simp
      simp only [List.getElem_toArray, List.getElem_cons_succ, List.getElem_cons_zero, Act.put, List.setIfInBounds_toArray, List.set_cons_succ, List.set_cons_zero, Nat.reduceAdd]
      refine wpAnyH_take (i := 8) (v := .bool false) rfl (by kernel_rfl) (by kernel_rfl) (by kernel_rfl) (fun _ _ _ h => h) (Or.inl ⟨by rfl, fun w' hS' => by rfl⟩) s1 ?_
      simp only [List.getElem_toArray, List.getElem_cons_succ, List.getElem_cons_zero, Act.put, List.setIfInBounds_toArray, List.set_cons_succ, List.set_cons_zero, Nat.reduceAdd]
      refine wpAnyH_take (i := 9) (v := .bool false) rfl (by kernel_rfl) (by kernel_rfl) (by kernel_rfl) (fun _ _ _ h => h) (Or.inl ⟨by rfl, fun w' hS' => by rfl⟩) s1 ?_
      simp only [List.getElem_toArray, List.getElem_cons_succ, List.getElem_cons_zero, Act.put, List.setIfInBounds_toArray, List.set_cons_succ, List.set_cons_zero, Nat.reduceAdd]
      refine wpAnyH_take (i := 10) (v := val K O S ax Z.length cx) rfl (by kernel_rfl) (by kernel_rfl) (by kernel_rfl) (fun _ _ _ h => h) (Or.inl ⟨by rfl, fun w' hS' => ?_⟩) s1 ?_
      · obtain ⟨q0, q1, q2, q3, q4, q5, q6, q7, q8, q9, q10, q11, q12, q13, q14, q15, q16, q17⟩ := hS'
        go_simp
      simp only [List.getElem_toArray, List.getElem_cons_succ, List.getElem_cons_zero, Act.put, List.setIfInBounds_toArray, List.set_cons_succ, List.set_cons_zero, Nat.reduceAdd]
      refine wpAnyH_take (i := 11) (v := val K O S ay Z.length cy) rfl (by kernel_rfl) (by kernel_rfl) (by kernel_rfl) (fun _ _ _ h => h) (Or.inl ⟨by rfl, fun w' hS' => ?_⟩) s1 ?_
      · obtain ⟨q0, q1, q2, q3, q4, q5, q6, q7, q8, q9, q10, q11, q12, q13, q14, q15, q16, q17⟩ := hS'
        go_simp
      simp only [List.getElem_toArray, List.getElem_cons_succ, List.getElem_cons_zero, Act.put, List.setIfInBounds_toArray, List.set_cons_succ, List.set_cons_zero, Nat.reduceAdd]
      refine Y0.one_call2w (i := 12) (by kernel_rfl) rfl (by rfl) (.tmp 68) (.tmp 69) _ rfl (val K O S ax Z.length cx) (val K O S ay Z.length cy) (by rfl) (by rfl) (enters_of Try.func30 (by kernel_rfl) rfl) ((sI.out _ g1.r2 g1.r3).mono ?_)
      rintro e v2 ⟨rfl, hb2⟩
      have g2 := g1.below hb2
      have s2 := g2.cells
      refine ⟨_, rfl, s2, ?_⟩
      simp only [List.getElem_toArray, List.getElem_cons_succ, List.getElem_cons_zero, Act.put, List.setIfInBounds_toArray, List.set_cons_succ, List.set_cons_zero, Nat.reduceAdd]
      refine wpAnyH_take (i := 13) (v := .bool false) rfl (by kernel_rfl) (by kernel_rfl) (by kernel_rfl) (fun _ _ _ h => h) (Or.inl ⟨by rfl, fun w' hS' => ?_⟩) s2 ?_
      · obtain ⟨q0, q1, q2, q3, q4, q5, q6, q7, q8, q9, q10, q11, q12, q13, q14, q15, q16, q17⟩ := hS'
        go_simp
      simp only [List.getElem_toArray, List.getElem_cons_succ, List.getElem_cons_zero, Act.put, List.setIfInBounds_toArray, List.set_cons_succ, List.set_cons_zero, Nat.reduceAdd]
      refine wpAnyH_take (i := 14) (v := .bool false) rfl (by kernel_rfl) (by kernel_rfl) (by kernel_rfl) (fun _ _ _ h => h) (Or.inl ⟨by rfl, fun w' hS' => by rfl⟩) s2 ?_
      simp only [List.getElem_toArray, List.getElem_cons_succ, List.getElem_cons_zero, Act.put, List.setIfInBounds_toArray, List.set_cons_succ, List.set_cons_zero, Nat.reduceAdd]
      refine wpAnyH_take (i := 15) (v := .bool false) rfl (by kernel_rfl) (by kernel_rfl) (by kernel_rfl) (fun _ _ _ h => h) (Or.inl ⟨by rfl, fun w' hS' => by rfl⟩) s2 ?_
      simp only [List.getElem_toArray, List.getElem_cons_succ, List.getElem_cons_zero, Act.put, List.setIfInBounds_toArray, List.set_cons_succ, List.set_cons_zero, Nat.reduceAdd]
      refine wpAnyH_take (i := 16) (v := .string pv) rfl (by kernel_rfl) (by kernel_rfl) (by kernel_rfl) (fun _ _ _ h => h) (Or.inl ⟨by rfl, fun w' hS' => by rfl⟩) s2 ?_
      simp only [List.getElem_toArray, List.getElem_cons_succ, List.getElem_cons_zero, Act.put, List.setIfInBounds_toArray, List.set_cons_succ, List.set_cons_zero, Nat.reduceAdd]
      refine wpAnyH_take (i := 17) (v := ev i nm) rfl (by kernel_rfl) (by kernel_rfl) (by kernel_rfl) (fun _ _ _ h => h) (Or.inl ⟨by rfl, fun w' hS' => ?_⟩) s2 ?_
      · obtain ⟨q0, q1, q2, q3, q4, q5, q6, q7, q8, q9, q10, q11, q12, q13, q14, q15, q16, q17⟩ := hS'
        go_simp
      simp only [List.getElem_toArray, List.getElem_cons_succ, List.getElem_cons_zero, Act.put, List.setIfInBounds_toArray, List.set_cons_succ, List.set_cons_zero, Nat.reduceAdd]
      refine Y0.one_callw (i := 18) (by kernel_rfl) rfl (by rfl) (.tmp 75) _ rfl (ev i nm) (by rfl) (enters_of Try.func31 (by kernel_rfl) rfl) ((sPE.out _).mono ?_)
      rintro e v3 ⟨rfl, hb3⟩
      have g3 := g2.below hb3
      have s3 := g3.cells
      refine ⟨_, rfl, s3, ?_⟩
      simp only [List.getElem_toArray, List.getElem_cons_succ, List.getElem_cons_zero, Act.put, List.setIfInBounds_toArray, List.set_cons_succ, List.set_cons_zero, Nat.reduceAdd]
      refine wpAnyH_take (i := 19) (v := .bool false) rfl (by kernel_rfl) (by kernel_rfl) (by kernel_rfl) (fun _ _ _ h => h) (Or.inl ⟨by rfl, fun w' hS' => ?_⟩) s3 ?_
      · obtain ⟨q0, q1, q2, q3, q4, q5, q6, q7, q8, q9, q10, q11, q12, q13, q14, q15, q16, q17⟩ := hS'
        go_simp
      simp only [List.getElem_toArray, List.getElem_cons_succ, List.getElem_cons_zero, Act.put, List.setIfInBounds_toArray, List.set_cons_succ, List.set_cons_zero, Nat.reduceAdd]
      refine wpAnyH_take (i := 20) (v := .bool false) rfl (by kernel_rfl) (by kernel_rfl) (by kernel_rfl) (fun _ _ _ h => h) (Or.inl ⟨by rfl, fun w' hS' => by rfl⟩) s3 ?_
      simp only [List.getElem_toArray, List.getElem_cons_succ, List.getElem_cons_zero, Act.put, List.setIfInBounds_toArray, List.set_cons_succ, List.set_cons_zero, Nat.reduceAdd]
      refine wpAnyH_take (i := 21) (v := .bool false) rfl (by kernel_rfl) (by kernel_rfl) (by kernel_rfl) (fun _ _ _ h => h) (Or.inl ⟨by rfl, fun w' hS' => by rfl⟩) s3 ?_
      simp only [List.getElem_toArray, List.getElem_cons_succ, List.getElem_cons_zero, Act.put, List.setIfInBounds_toArray, List.set_cons_succ, List.set_cons_zero, Nat.reduceAdd]
      refine wpAnyH_take (i := 22) (v := .bool false) rfl (by kernel_rfl) (by kernel_rfl) (by kernel_rfl) (fun _ _ _ h => h) (Or.inl ⟨by rfl, fun w' hS' => by rfl⟩) s3 ?_
      simp only [List.getElem_toArray, List.getElem_cons_succ, List.getElem_cons_zero, Act.put, List.setIfInBounds_toArray, List.set_cons_succ, List.set_cons_zero, Nat.reduceAdd]
      refine wpAnyH_take (i := 23) (v := .bool false) rfl (by kernel_rfl) (by kernel_rfl) (by kernel_rfl) (fun _ _ _ h => h) (Or.inl ⟨by rfl, fun w' hS' => by rfl⟩) s3 ?_
      simp only [List.getElem_toArray, List.getElem_cons_succ, List.getElem_cons_zero, Act.put, List.setIfInBounds_toArray, List.set_cons_succ, List.set_cons_zero, Nat.reduceAdd]
      refine wpAnyH_take (i := 24) (v := .bool false) rfl (by kernel_rfl) (by kernel_rfl) (by kernel_rfl) (fun _ _ _ h => h) (Or.inl ⟨by rfl, fun w' hS' => ?_⟩) s3 ?_
      · obtain ⟨q0, q1, q2, q3, q4, q5, q6, q7, q8, q9, q10, q11, q12, q13, q14, q15, q16, q17⟩ := hS'
        go_simp
      simp only [List.getElem_toArray, List.getElem_cons_succ, List.getElem_cons_zero, Act.put, List.setIfInBounds_toArray, List.set_cons_succ, List.set_cons_zero, Nat.reduceAdd]
      refine wpAnyH_take (i := 25) (v := .bool false) rfl (by kernel_rfl) (by kernel_rfl) (by kernel_rfl) (fun _ _ _ h => h) (Or.inl ⟨by rfl, fun w' hS' => by rfl⟩) s3 ?_
      simp only [List.getElem_toArray, List.getElem_cons_succ, List.getElem_cons_zero, Act.put, List.setIfInBounds_toArray, List.set_cons_succ, List.set_cons_zero, Nat.reduceAdd]
      refine wpAnyH_take (i := 26) (v := .bool false) rfl (by kernel_rfl) (by kernel_rfl) (by kernel_rfl) (fun _ _ _ h => h) (Or.inl ⟨by rfl, fun w' hS' => by rfl⟩) s3 ?_
      simp only [List.getElem_toArray, List.getElem_cons_succ, List.getElem_cons_zero, Act.put, List.setIfInBounds_toArray, List.set_cons_succ, List.set_cons_zero, Nat.reduceAdd]
      refine wpAnyH_take (i := 27) (v := ev I N) rfl (by kernel_rfl) (by kernel_rfl) (by kernel_rfl) (fun _ _ _ h => h) (Or.inl ⟨by rfl, fun w' hS' => ?_⟩) s3 ?_
      · obtain ⟨q0, q1, q2, q3, q4, q5, q6, q7, q8, q9, q10, q11, q12, q13, q14, q15, q16, q17⟩ := hS'
        go_simp
      simp only [List.getElem_toArray, List.getElem_cons_succ, List.getElem_cons_zero, Act.put, List.setIfInBounds_toArray, List.set_cons_succ, List.set_cons_zero, Nat.reduceAdd]
      refine wpAnyH_take (i := 28) (v := ev I N) rfl (by kernel_rfl) (by kernel_rfl) (by kernel_rfl) (fun _ _ _ h => h) (Or.inl ⟨by rfl, fun w' hS' => ?_⟩) s3 ?_
      · obtain ⟨q0, q1, q2, q3, q4, q5, q6, q7, q8, q9, q10, q11, q12, q13, q14, q15, q16, q17⟩ := hS'
        go_simp
      simp only [List.getElem_toArray, List.getElem_cons_succ, List.getElem_cons_zero, Act.put, List.setIfInBounds_toArray, List.set_cons_succ, List.set_cons_zero, Nat.reduceAdd]
      refine wpAnyH_take (i := 29) (v := .bool false) rfl (by kernel_rfl) (by kernel_rfl) (by kernel_rfl) (fun _ _ _ h => h) (Or.inl ⟨by rfl, fun w' hS' => ?_⟩) s3 ?_
      · obtain ⟨q0, q1, q2, q3, q4, q5, q6, q7, q8, q9, q10, q11, q12, q13, q14, q15, q16, q17⟩ := hS'
        go_simp
      simp only [List.getElem_toArray, List.getElem_cons_succ, List.getElem_cons_zero, Act.put, List.setIfInBounds_toArray, List.set_cons_succ, List.set_cons_zero, Nat.reduceAdd]
      refine wpAnyH_take (i := 30) (v := .bool false) rfl (by kernel_rfl) (by kernel_rfl) (by kernel_rfl) (fun _ _ _ h => h) (Or.inl ⟨by rfl, fun w' hS' => by rfl⟩) s3 ?_
      simp only [List.getElem_toArray, List.getElem_cons_succ, List.getElem_cons_zero, Act.put, List.setIfInBounds_toArray, List.set_cons_succ, List.set_cons_zero, Nat.reduceAdd]
      refine wpAnyH_take (i := 31) (v := .bool false) rfl (by kernel_rfl) (by kernel_rfl) (by kernel_rfl) (fun _ _ _ h => h) (Or.inl ⟨by rfl, fun w' hS' => by rfl⟩) s3 ?_
      simp only [List.getElem_toArray, List.getElem_cons_succ, List.getElem_cons_zero, Act.put, List.setIfInBounds_toArray, List.set_cons_succ, List.set_cons_zero, Nat.reduceAdd]
      refine wpAnyH_take (i := 32) (v := val k o s p zs.length cp) rfl (by kernel_rfl) (by kernel_rfl) (by kernel_rfl) (fun _ _ _ h => h) (Or.inl ⟨by rfl, fun w' hS' => ?_⟩) s3 ?_
      · obtain ⟨q0, q1, q2, q3, q4, q5, q6, q7, q8, q9, q10, q11, q12, q13, q14, q15, q16, q17⟩ := hS'
        go_simp
      simp only [List.getElem_toArray, List.getElem_cons_succ, List.getElem_cons_zero, Act.put, List.setIfInBounds_toArray, List.set_cons_succ, List.set_cons_zero, Nat.reduceAdd]
      refine wpAnyH_take (i := 34) (v := val k o s p zs.length cp) rfl (by kernel_rfl) (by kernel_rfl) (by kernel_rfl) (fun _ _ _ h => h) (Or.inl ⟨by rfl, fun w' hS' => ?_⟩) s3 ?_
      · obtain ⟨q0, q1, q2, q3, q4, q5, q6, q7, q8, q9, q10, q11, q12, q13, q14, q15, q16, q17⟩ := hS'
        go_simp
      simp only [List.getElem_toArray, List.getElem_cons_succ, List.getElem_cons_zero, Act.put, List.setIfInBounds_toArray, List.set_cons_succ, List.set_cons_zero, Nat.reduceAdd]
      refine Y0.one_callw (i := 33) (by kernel_rfl) rfl (by rfl) (.tmp 90) _ rfl (val k o s p zs.length cp) (by rfl) (enters_of Try.func32 (by kernel_rfl) rfl) ((iOk.out _ g3.r1).mono ?_)
      rintro e v4 ⟨rfl, hb4⟩
      have g4 := g3.below hb4
      have s4 := g4.cells
      refine ⟨_, rfl, s4, ?_⟩
      simp only [List.getElem_toArray, List.getElem_cons_succ, List.getElem_cons_zero, Act.put, List.setIfInBounds_toArray, List.set_cons_succ, List.set_cons_zero, Nat.reduceAdd]
      refine Y0.one_callw (i := 35) (by kernel_rfl) rfl (by rfl) (.tmp 92) _ rfl (val k o s p zs.length cp) (by rfl) (enters_of Try.func33 (by kernel_rfl) rfl) ((sOk.out _ g4.r1).mono ?_)
      rintro e v5 ⟨rfl, hb5⟩
      have g5 := g4.below hb5
      have s5 := g5.cells
      refine ⟨_, rfl, s5, ?_⟩
      simp only [List.getElem_toArray, List.getElem_cons_succ, List.getElem_cons_zero, Act.put, List.setIfInBounds_toArray, List.set_cons_succ, List.set_cons_zero, Nat.reduceAdd]
      refine wpAnyH_take (i := 36) (v := .bool false) rfl (by kernel_rfl) (by kernel_rfl) (by kernel_rfl) (fun _ _ _ h => h) (Or.inl ⟨by rfl, fun w' hS' => ?_⟩) s5 ?_
      · obtain ⟨q0, q1, q2, q3, q4, q5, q6, q7, q8, q9, q10, q11, q12, q13, q14, q15, q16, q17⟩ := hS'
        go_simp
      simp only [List.getElem_toArray, List.getElem_cons_succ, List.getElem_cons_zero, Act.put, List.setIfInBounds_toArray, List.set_cons_succ, List.set_cons_zero, Nat.reduceAdd]
      refine wpAnyH_take (i := 37) (v := .bool false) rfl (by kernel_rfl) (by kernel_rfl) (by kernel_rfl) (fun _ _ _ h => h) (Or.inl ⟨by rfl, fun w' hS' => by rfl⟩) s5 ?_
      simp only [List.getElem_toArray, List.getElem_cons_succ, List.getElem_cons_zero, Act.put, List.setIfInBounds_toArray, List.set_cons_succ, List.set_cons_zero, Nat.reduceAdd]
      refine wpAnyH_take (i := 38) (v := .bool false) rfl (by kernel_rfl) (by kernel_rfl) (by kernel_rfl) (fun _ _ _ h => h) (Or.inl ⟨by rfl, fun w' hS' => by rfl⟩) s5 ?_
      simp only [List.getElem_toArray, List.getElem_cons_succ, List.getElem_cons_zero, Act.put, List.setIfInBounds_toArray, List.set_cons_succ, List.set_cons_zero, Nat.reduceAdd]
      refine wpAnyH_take (i := 39) (v := ev i nm) rfl (by kernel_rfl) (by kernel_rfl) (by kernel_rfl) (fun _ _ _ h => h) (Or.inl ⟨by rfl, fun w' hS' => ?_⟩) s5 ?_
      · obtain ⟨q0, q1, q2, q3, q4, q5, q6, q7, q8, q9, q10, q11, q12, q13, q14, q15, q16, q17⟩ := hS'
        go_simp
      simp only [List.getElem_toArray, List.getElem_cons_succ, List.getElem_cons_zero, Act.put, List.setIfInBounds_toArray, List.set_cons_succ, List.set_cons_zero, Nat.reduceAdd]
      refine wpAnyH_take (i := 41) (v := ev i nm) rfl (by kernel_rfl) (by kernel_rfl) (by kernel_rfl) (fun _ _ _ h => h) (Or.inl ⟨by rfl, fun w' hS' => ?_⟩) s5 ?_
      · obtain ⟨q0, q1, q2, q3, q4, q5, q6, q7, q8, q9, q10, q11, q12, q13, q14, q15, q16, q17⟩ := hS'
        go_simp
      simp only [List.getElem_toArray, List.getElem_cons_succ, List.getElem_cons_zero, Act.put, List.setIfInBounds_toArray, List.set_cons_succ, List.set_cons_zero, Nat.reduceAdd]
      refine Y0.one_callw (i := 40) (by kernel_rfl) rfl (by rfl) (.tmp 97) _ rfl (ev i nm) (by rfl) (enters_of Try.func34 (by kernel_rfl) rfl) ((iEO.out _).mono ?_)
      rintro e v6 ⟨rfl, hb6⟩
      have g6 := g5.below hb6
      have s6 := g6.cells
      refine ⟨_, rfl, s6, ?_⟩
      simp only [List.getElem_toArray, List.getElem_cons_succ, List.getElem_cons_zero, Act.put, List.setIfInBounds_toArray, List.set_cons_succ, List.set_cons_zero, Nat.reduceAdd]
      refine Y0.one_callw (i := 42) (by kernel_rfl) rfl (by rfl) (.tmp 99) _ rfl (ev i nm) (by rfl) (enters_of Try.func35 (by kernel_rfl) rfl) ((sEO.out _).mono ?_)
      rintro e v7 ⟨rfl, hb7⟩
      have g7 := g6.below hb7
      have s7 := g7.cells
      refine ⟨_, rfl, s7, ?_⟩
      simp only [List.getElem_toArray, List.getElem_cons_succ, List.getElem_cons_zero, Act.put, List.setIfInBounds_toArray, List.set_cons_succ, List.set_cons_zero, Nat.reduceAdd]
      refine wpAnyH_take (i := 43) (v := .bool false) rfl (by kernel_rfl) (by kernel_rfl) (by kernel_rfl) (fun _ _ _ h => h) (Or.inl ⟨by rfl, fun w' hS' => ?_⟩) s7 ?_
      · obtain ⟨q0, q1, q2, q3, q4, q5, q6, q7, q8, q9, q10, q11, q12, q13, q14, q15, q16, q17⟩ := hS'
        go_simp
      simp only [List.getElem_toArray, List.getElem_cons_succ, List.getElem_cons_zero, Act.put, List.setIfInBounds_toArray, List.set_cons_succ, List.set_cons_zero, Nat.reduceAdd]
      refine wpAnyH_take (i := 44) (v := .bool false) rfl (by kernel_rfl) (by kernel_rfl) (by kernel_rfl) (fun _ _ _ h => h) (Or.inl ⟨by rfl, fun w' hS' => by rfl⟩) s7 ?_
      simp only [List.getElem_toArray, List.getElem_cons_succ, List.getElem_cons_zero, Act.put, List.setIfInBounds_toArray, List.set_cons_succ, List.set_cons_zero, Nat.reduceAdd]
      refine wpAnyH_take (i := 45) (v := .bool false) rfl (by kernel_rfl) (by kernel_rfl) (by kernel_rfl) (fun _ _ _ h => h) (Or.inl ⟨by rfl, fun w' hS' => by rfl⟩) s7 ?_
      simp only [List.getElem_toArray, List.getElem_cons_succ, List.getElem_cons_zero, Act.put, List.setIfInBounds_toArray, List.set_cons_succ, List.set_cons_zero, Nat.reduceAdd]
      refine wpAnyH_take (i := 46) (v := .int .i64 ri) rfl (by kernel_rfl) (by kernel_rfl) (by kernel_rfl) (fun _ _ _ h => h) (Or.inl ⟨by rfl, fun w' hS' => by rfl⟩) s7 ?_
      simp only [List.getElem_toArray, List.getElem_cons_succ, List.getElem_cons_zero, Act.put, List.setIfInBounds_toArray, List.set_cons_succ, List.set_cons_zero, Nat.reduceAdd]
      refine wpAnyH_take (i := 48) (v := .int .i64 ri) rfl (by kernel_rfl) (by kernel_rfl) (by kernel_rfl) (fun _ _ _ h => h) (Or.inl ⟨by rfl, fun w' hS' => by rfl⟩) s7 ?_
      simp only [List.getElem_toArray, List.getElem_cons_succ, List.getElem_cons_zero, Act.put, List.setIfInBounds_toArray, List.set_cons_succ, List.set_cons_zero, Nat.reduceAdd]
      refine Y0.one_callw (i := 47) (by kernel_rfl) rfl (by rfl) (.tmp 104) _ rfl (.int .i64 ri) (by rfl) (enters_of Try.func36 (by kernel_rfl) rfl) ((L1.impl_RecAt ri _).mono ?_)
      rintro e vq ⟨rfl, rfl⟩
      refine ⟨_, rfl, s7, ?_⟩
      simp only [List.getElem_toArray, List.getElem_cons_succ, List.getElem_cons_zero, Act.put, List.setIfInBounds_toArray, List.set_cons_succ, List.set_cons_zero, Nat.reduceAdd]
      refine Y0.one_callw (i := 49) (by kernel_rfl) rfl (by rfl) (.tmp 106) _ rfl (.int .i64 ri) (by rfl) (enters_of Try.func37 (by kernel_rfl) rfl) ((L1.spec_RecAt ri _).mono ?_)
      rintro e vq ⟨rfl, rfl⟩
      refine ⟨_, rfl, s7, ?_⟩
      simp only [List.getElem_toArray, List.getElem_cons_succ, List.getElem_cons_zero, Act.put, List.setIfInBounds_toArray, List.set_cons_succ, List.set_cons_zero, Nat.reduceAdd]
      refine wpAnyH_take (i := 50) (v := .bool false) rfl (by kernel_rfl) (by kernel_rfl) (by kernel_rfl) (fun _ _ _ h => h) (Or.inl ⟨by rfl, fun w' hS' => ?_⟩) s7 ?_
      · obtain ⟨q0, q1, q2, q3, q4, q5, q6, q7, q8, q9, q10, q11, q12, q13, q14, q15, q16, q17⟩ := hS'
        go_simp
      simp only [List.getElem_toArray, List.getElem_cons_succ, List.getElem_cons_zero, Act.put, List.setIfInBounds_toArray, List.set_cons_succ, List.set_cons_zero, Nat.reduceAdd]
      refine wpAnyH_take (i := 51) (v := .bool false) rfl (by kernel_rfl) (by kernel_rfl) (by kernel_rfl) (fun _ _ _ h => h) (Or.inl ⟨by rfl, fun w' hS' => by rfl⟩) s7 ?_
      simp only [List.getElem_toArray, List.getElem_cons_succ, List.getElem_cons_zero, Act.put, List.setIfInBounds_toArray, List.set_cons_succ, List.set_cons_zero, Nat.reduceAdd]
      refine wpAnyH_take (i := 52) (v := .bool false) rfl (by kernel_rfl) (by kernel_rfl) (by kernel_rfl) (fun _ _ _ h => h) (Or.inl ⟨by rfl, fun w' hS' => by rfl⟩) s7 ?_
      simp only [List.getElem_toArray, List.getElem_cons_succ, List.getElem_cons_zero, Act.put, List.setIfInBounds_toArray, List.set_cons_succ, List.set_cons_zero, Nat.reduceAdd]
      refine wpAnyH_take (i := 53) (v := .bool false) rfl (by kernel_rfl) (by kernel_rfl) (by kernel_rfl) (fun _ _ _ h => h) (Or.inl ⟨by rfl, fun w' hS' => by rfl⟩) s7 ?_
      simp only [List.getElem_toArray, List.getElem_cons_succ, List.getElem_cons_zero, Act.put, List.setIfInBounds_toArray, List.set_cons_succ, List.set_cons_zero, Nat.reduceAdd]
      refine wpAnyH_take (i := 54) (v := .bool false) rfl (by kernel_rfl) (by kernel_rfl) (by kernel_rfl) (fun _ _ _ h => h) (Or.inl ⟨by rfl, fun w' hS' => by rfl⟩) s7 ?_
      simp only [List.getElem_toArray, List.getElem_cons_succ, List.getElem_cons_zero, Act.put, List.setIfInBounds_toArray, List.set_cons_succ, List.set_cons_zero, Nat.reduceAdd]
      refine wpAnyH_take (i := 55) (v := undef) rfl (by kernel_rfl) (by kernel_rfl) (by kernel_rfl) (fun _ _ _ h => h) (Or.inr ⟨by rfl, rfl⟩) s7 ?_
      simp only [List.getElem_toArray, List.getElem_cons_succ, List.getElem_cons_zero, Act.put, List.setIfInBounds_toArray, List.set_cons_succ, List.set_cons_zero, Nat.reduceAdd]
      refine wpAnyH_take (i := 56) (v := undef) rfl (by kernel_rfl) (by kernel_rfl) (by kernel_rfl) (fun _ _ _ h => h) (Or.inr ⟨by rfl, rfl⟩) s7 ?_
      simp only [List.getElem_toArray, List.getElem_cons_succ, List.getElem_cons_zero, Act.put, List.setIfInBounds_toArray, List.set_cons_succ, List.set_cons_zero, Nat.reduceAdd]
      refine wpAnyH_take (i := 57) (v := undef) rfl (by kernel_rfl) (by kernel_rfl) (by kernel_rfl) (fun _ _ _ h => h) (Or.inr ⟨by rfl, rfl⟩) s7 ?_
      simp only [List.getElem_toArray, List.getElem_cons_succ, List.getElem_cons_zero, Act.put, List.setIfInBounds_toArray, List.set_cons_succ, List.set_cons_zero, Nat.reduceAdd]
      refine wpAnyH_take (i := 58) (v := undef) rfl (by kernel_rfl) (by kernel_rfl) (by kernel_rfl) (fun _ _ _ h => h) (Or.inr ⟨by rfl, rfl⟩) s7 ?_
      simp only [List.getElem_toArray, List.getElem_cons_succ, List.getElem_cons_zero, Act.put, List.setIfInBounds_toArray, List.set_cons_succ, List.set_cons_zero, Nat.reduceAdd]
      refine wpAnyH_take (i := 59) (v := .bool false) rfl (by kernel_rfl) (by kernel_rfl) (by kernel_rfl) (fun _ _ _ h => h) (Or.inl ⟨by rfl, fun w' hS' => by rfl⟩) s7 ?_
      simp only [List.getElem_toArray, List.getElem_cons_succ, List.getElem_cons_zero, Act.put, List.setIfInBounds_toArray, List.set_cons_succ, List.set_cons_zero, Nat.reduceAdd]
      refine wpAnyH_take (i := 60) (v := .bool false) rfl (by kernel_rfl) (by kernel_rfl) (by kernel_rfl) (fun _ _ _ h => h) (Or.inl ⟨by rfl, fun w' hS' => by rfl⟩) s7 ?_
      simp only [List.getElem_toArray, List.getElem_cons_succ, List.getElem_cons_zero, Act.put, List.setIfInBounds_toArray, List.set_cons_succ, List.set_cons_zero, Nat.reduceAdd]
      refine wpAnyH_take (i := 61) (v := .bool false) rfl (by kernel_rfl) (by kernel_rfl) (by kernel_rfl) (fun _ _ _ h => h) (Or.inl ⟨by rfl, fun w' hS' => by rfl⟩) s7 ?_
      simp only [List.getElem_toArray, List.getElem_cons_succ, List.getElem_cons_zero, Act.put, List.setIfInBounds_toArray, List.set_cons_succ, List.set_cons_zero, Nat.reduceAdd]
      refine wpAnyH_take (i := 62) (v := .bool false) rfl (by kernel_rfl) (by kernel_rfl) (by kernel_rfl) (fun _ _ _ h => h) (Or.inl ⟨by rfl, fun w' hS' => by rfl⟩) s7 ?_
      simp only [List.getElem_toArray, List.getElem_cons_succ, List.getElem_cons_zero, Act.put, List.setIfInBounds_toArray, List.set_cons_succ, List.set_cons_zero, Nat.reduceAdd]
      refine wpAnyH_take (i := 63) (v := .bool false) rfl (by kernel_rfl) (by kernel_rfl) (by kernel_rfl) (fun _ _ _ h => h) (Or.inl ⟨by rfl, fun w' hS' => by rfl⟩) s7 ?_
      simp only [List.getElem_toArray, List.getElem_cons_succ, List.getElem_cons_zero, Act.put, List.setIfInBounds_toArray, List.set_cons_succ, List.set_cons_zero, Nat.reduceAdd]
      refine wpAnyH_take (i := 64) (v := undef) rfl (by kernel_rfl) (by kernel_rfl) (by kernel_rfl) (fun _ _ _ h => h) (Or.inr ⟨by rfl, rfl⟩) s7 ?_
      simp only [List.getElem_toArray, List.getElem_cons_succ, List.getElem_cons_zero, Act.put, List.setIfInBounds_toArray, List.set_cons_succ, List.set_cons_zero, Nat.reduceAdd]
      refine wpAnyH_take (i := 65) (v := undef) rfl (by kernel_rfl) (by kernel_rfl) (by kernel_rfl) (fun _ _ _ h => h) (Or.inr ⟨by rfl, rfl⟩) s7 ?_
      simp only [List.getElem_toArray, List.getElem_cons_succ, List.getElem_cons_zero, Act.put, List.setIfInBounds_toArray, List.set_cons_succ, List.set_cons_zero, Nat.reduceAdd]
      refine wpAnyH_take (i := 66) (v := undef) rfl (by kernel_rfl) (by kernel_rfl) (by kernel_rfl) (fun _ _ _ h => h) (Or.inr ⟨by rfl, rfl⟩) s7 ?_
      simp only [List.getElem_toArray, List.getElem_cons_succ, List.getElem_cons_zero, Act.put, List.setIfInBounds_toArray, List.set_cons_succ, List.set_cons_zero, Nat.reduceAdd]
      refine wpAnyH_take (i := 67) (v := undef) rfl (by kernel_rfl) (by kernel_rfl) (by kernel_rfl) (fun _ _ _ h => h) (Or.inr ⟨by rfl, rfl⟩) s7 ?_
      simp only [List.getElem_toArray, List.getElem_cons_succ, List.getElem_cons_zero, Act.put, List.setIfInBounds_toArray, List.set_cons_succ, List.set_cons_zero, Nat.reduceAdd]
      refine wpAnyH_take (i := 68) (v := .bool false) rfl (by kernel_rfl) (by kernel_rfl) (by kernel_rfl) (fun _ _ _ h => h) (Or.inl ⟨by rfl, fun w' hS' => by rfl⟩) s7 ?_
      simp only [List.getElem_toArray, List.getElem_cons_succ, List.getElem_cons_zero, Act.put, List.setIfInBounds_toArray, List.set_cons_succ, List.set_cons_zero, Nat.reduceAdd]
      refine wpAnyH_take (i := 69) (v := .bool false) rfl (by kernel_rfl) (by kernel_rfl) (by kernel_rfl) (fun _ _ _ h => h) (Or.inl ⟨by rfl, fun w' hS' => by rfl⟩) s7 ?_
      simp only [List.getElem_toArray, List.getElem_cons_succ, List.getElem_cons_zero, Act.put, List.setIfInBounds_toArray, List.set_cons_succ, List.set_cons_zero, Nat.reduceAdd]
      refine wpAnyH_done (by kernel_rfl) ?_ _
      have g := g7
      clear s1 g1 hb1 s2 g2 hb2 s3 g3 hb3 s4 g4 hb4 s5 g5 hb5 s6 g6 hb6 s7 g7 hb7
      clear sPI sI sPE iOk sOk iEO iPI iPE
      have s0 := g.k4.c0
      have s1 := g.k4.c1
      by_cases hse : sv.toList = []
      · have hse' : (sv.toList != []) = false := by rw [hse]; rfl
        have hse1 : (sv.toList == []) = true := by rw [hse]; rfl
        by_cases hpe : pv.toList = []
        · have hpe' : (pv.toList == []) = true := by rw [hpe]; rfl
          have hb2 := hnil hpe
          subst hb2
          clear iGI iGE hsv16 hpv16 hnil sI2 hse hpe
          go_wp2_with (first
            | (go_at_call 30; refine (sI2.out _ _ _ x5 g.r1).mono ?_; rintro e v2 ⟨rfl, hb⟩; have g := g.below hb; have s0 := g.k4.c0; have s1 := g.k4.c1)
            | (go_at_call 35; refine (sEO.out _).mono ?_; rintro e v7 ⟨rfl, hb⟩; have g := g.below hb)
            | (go_at_call 21; refine (iGI' _).mono ?_; rintro e va ⟨a5, c5, rfl, x5, hb⟩; have nb := K0.below_new va (.cells #[.int .i64 k, .int .i64 o, .int .i64 s, .slice a5 zs.length c5] 26); have x5 := x5.below nb; have g := (g.below hb).below nb; have p0 := g.k1.c0; have p1 := g.k1.c1; have p2 := g.k1.c2; have p3 := g.k1.c3)
            | (go_at_call 26; refine (iGE' _).mono ?_; rintro e vb ⟨rfl, hb⟩; have nb := K0.below_new vb (.cells #[.int .i64 i, .string nm] 33); have g := (g.below hb).below nb; have s0 := g.k4.c0; have s1 := g.k4.c1))
          go_ret
          exact ⟨rfl, g.bel⟩
        · have hpe' : (pv.toList == []) = false := by simpa using hpe
          have h16 := hpv16 hpe
          have iGE' := iGE.out hpe
          clear iGI iGE hsv16 hpv16 hnil sI2 hse hpe
          go_wp2_with (first
            | (go_at_call 30; refine (sI2.out _ _ _ x5 g.r1).mono ?_; rintro e v2 ⟨rfl, hb⟩; have g := g.below hb; have s0 := g.k4.c0; have s1 := g.k4.c1)
            | (go_at_call 35; refine (sEO.out _).mono ?_; rintro e v7 ⟨rfl, hb⟩; have g := g.below hb)
            | (go_at_call 21; refine (iGI' _).mono ?_; rintro e va ⟨a5, c5, rfl, x5, hb⟩; have nb := K0.below_new va (.cells #[.int .i64 k, .int .i64 o, .int .i64 s, .slice a5 zs.length c5] 26); have x5 := x5.below nb; have g := (g.below hb).below nb; have p0 := g.k1.c0; have p1 := g.k1.c1; have p2 := g.k1.c2; have p3 := g.k1.c3)
            | (go_at_call 26; refine (iGE' _).mono ?_; rintro e vb ⟨rfl, hb⟩; have nb := K0.below_new vb (.cells #[.int .i64 i, .string nm] 33); have g := (g.below hb).below nb; have s0 := g.k4.c0; have s1 := g.k4.c1))
          go_ret
          exact ⟨rfl, g.bel⟩
      · have hse' : (sv.toList != []) = true := by simpa using hse
        have hse1 : (sv.toList == []) = false := by simpa using hse
        have h15 := hsv16 hse
        have iGI' := iGI.out hse
        by_cases hpe : pv.toList = []
        · have hpe' : (pv.toList == []) = true := by rw [hpe]; rfl
          have hb2 := hnil hpe
          subst hb2
          clear iGI iGE hsv16 hpv16 hnil hse hpe
          go_wp2_with (first
            | (go_at_call 30; refine (sI2.out _ _ _ x5 g.r1).mono ?_; rintro e v2 ⟨rfl, hb⟩; have g := g.below hb; have s0 := g.k4.c0; have s1 := g.k4.c1)
            | (go_at_call 35; refine (sEO.out _).mono ?_; rintro e v7 ⟨rfl, hb⟩; have g := g.below hb)
            | (go_at_call 21; refine (iGI' _).mono ?_; rintro e va ⟨a5, c5, rfl, x5, hb⟩; have nb := K0.below_new va (.cells #[.int .i64 k, .int .i64 o, .int .i64 s, .slice a5 zs.length c5] 26); have x5 := x5.below nb; have g := (g.below hb).below nb; have p0 := g.k1.c0; have p1 := g.k1.c1; have p2 := g.k1.c2; have p3 := g.k1.c3)
            | (go_at_call 26; refine (iGE' _).mono ?_; rintro e vb ⟨rfl, hb⟩; have nb := K0.below_new vb (.cells #[.int .i64 i, .string nm] 33); have g := (g.below hb).below nb; have s0 := g.k4.c0; have s1 := g.k4.c1))
          go_ret
          exact ⟨rfl, g.bel⟩
        · have hpe' : (pv.toList == []) = false := by simpa using hpe
          have h16 := hpv16 hpe
          have iGE' := iGE.out hpe
          clear iGI iGE hsv16 hpv16 hnil hse hpe
          go_wp2_with (first
            | (go_at_call 30; refine (sI2.out _ _ _ x5 g.r1).mono ?_; rintro e v2 ⟨rfl, hb⟩; have g := g.below hb; have s0 := g.k4.c0; have s1 := g.k4.c1)
            | (go_at_call 35; refine (sEO.out _).mono ?_; rintro e v7 ⟨rfl, hb⟩; have g := g.below hb)
            | (go_at_call 21; refine (iGI' _).mono ?_; rintro e va ⟨a5, c5, rfl, x5, hb⟩; have nb := K0.below_new va (.cells #[.int .i64 k, .int .i64 o, .int .i64 s, .slice a5 zs.length c5] 26); have x5 := x5.below nb; have g := (g.below hb).below nb; have p0 := g.k1.c0; have p1 := g.k1.c1; have p2 := g.k1.c2; have p3 := g.k1.c3)
            | (go_at_call 26; refine (iGE' _).mono ?_; rintro e vb ⟨rfl, hb⟩; have nb := K0.below_new vb (.cells #[.int .i64 i, .string nm] 33); have g := (g.below hb).below nb; have s0 := g.k4.c0; have s1 := g.k4.c1))
          go_ret
          exact ⟨rfl, g.bel⟩

    · skip
      refine wp_region_held (S := fun W => W.cell? ⟨B1, 0, none⟩ = some (.int .i64 k) ∧ W.cell? ⟨B1, 1, none⟩ = some (.int .i64 o) ∧ W.cell? ⟨B1, 2, none⟩ = some (.int .i64 s) ∧ W.cell? ⟨B1, 3, none⟩ = some (.slice p zs.length cp) ∧ W.cell? ⟨B2, 0, none⟩ = some (.int .i64 K) ∧ W.cell? ⟨B2, 1, none⟩ = some (.int .i64 O) ∧ W.cell? ⟨B2, 2, none⟩ = some (.int .i64 S) ∧ W.cell? ⟨B2, 3, none⟩ = some (.slice ax Z.length cx) ∧ W.cell? ⟨B3, 0, none⟩ = some (.int .i64 K) ∧ W.cell? ⟨B3, 1, none⟩ = some (.int .i64 O) ∧ W.cell? ⟨B3, 2, none⟩ = some (.int .i64 S) ∧ W.cell? ⟨B3, 3, none⟩ = some (.slice ay Z.length cy) ∧ W.cell? ⟨B4, 0, none⟩ = some (.int .i64 i) ∧ W.cell? ⟨B4, 1, none⟩ = some (.string nm) ∧ W.cell? ⟨B5, 0, none⟩ = some (.int .i64 I) ∧ W.cell? ⟨B5, 1, none⟩ = some (.string N) ∧ W.cell? ⟨B6, 0, none⟩ = some (.int .i64 I) ∧ W.cell? ⟨B6, 1, none⟩ = some (.string N)) (by kernel_rfl) ?_
      refine wpAnyH_take (i := 0) (v := .string sv) rfl (by kernel_rfl) (by kernel_rfl) (by kernel_rfl) (fun _ _ _ h => h) (Or.inl ⟨by rfl, fun w' hS' => by rfl⟩) s0 ?_
      simp only [List.getElem_toArray, List.getElem_cons_succ, List.getElem_cons_zero, Act.put, List.setIfInBounds_toArray, List.set_cons_succ, List.set_cons_zero, Nat.reduceAdd]
      refine wpAnyH_take (i := 1) (v := val k o s p zs.length cp) rfl (by kernel_rfl) (by kernel_rfl) (by kernel_rfl) (fun _ _ _ h => h) (Or.inl ⟨by rfl, fun w' hS' => ?_⟩) s0 ?_
      · obtain ⟨q0, q1, q2, q3, q4, q5, q6, q7, q8, q9, q10, q11, q12, q13, q14, q15, q16, q17⟩ := hS'
        go_simp
      simp only [List.getElem_toArray, List.getElem_cons_succ, List.getElem_cons_zero, Act.put, List.setIfInBounds_toArray, List.set_cons_succ, List.set_cons_zero, Nat.reduceAdd]
      refine Y0.one_callw (i := 2) (by kernel_rfl) rfl (by rfl) (.tmp 59) _ rfl (val k o s p zs.length cp) (by rfl) (enters_of Try.func29 (by kernel_rfl) rfl) ((sPI.out _ g.r1).mono ?_)
      rintro e v1 ⟨rfl, hb1⟩
      have g1 := g.below hb1
      have s1 := g1.cells
      refine ⟨_, rfl, s1, ?_⟩
      simp only [List.getElem_toArray, List.getElem_cons_succ, List.getElem_cons_zero, Act.put, List.setIfInBounds_toArray, List.set_cons_succ, List.set_cons_zero, Nat.reduceAdd]
      refine wpAnyH_take (i := 3) (v := .bool false) rfl (by kernel_rfl) (by kernel_rfl) (by kernel_rfl) (fun _ _ _ h => h) (Or.inl ⟨by rfl, fun w' hS' => ?_⟩) s1 ?_
      · obtain ⟨q0, q1, q2, q3, q4, q5, q6, q7, q8, q9, q10, q11, q12, q13, q14, q15, q16, q17⟩ := hS'
        go_simp
      simp only [List.getElem_toArray, List.getElem_cons_succ, List.getElem_cons_zero, Act.put, List.setIfInBounds_toArray, List.set_cons_succ, List.set_cons_zero, Nat.reduceAdd]
      refine wpAnyH_take (i := 4) (v := .bool false) rfl (by kernel_rfl) (by kernel_rfl) (by kernel_rfl) (fun _ _ _ h => h) (Or.inl ⟨by rfl, fun w' hS' => by rfl⟩) s1 ?_
      simp only [List.getElem_toArray, List.getElem_cons_succ, List.getElem_cons_zero, Act.put, List.setIfInBounds_toArray, List.set_cons_succ, List.set_cons_zero, Nat.reduceAdd]
      refine wpAnyH_take (i := 5) (v := .bool false) rfl (by kernel_rfl) (by kernel_rfl) (by kernel_rfl) (fun _ _ _ h => h) (Or.inl ⟨by rfl, fun w' hS' => by rfl⟩) s1 ?_
      simp only [List.getElem_toArray, List.getElem_cons_succ, List.getElem_cons_zero, Act.put, List.setIfInBounds_toArray, List.set_cons_succ, List.set_cons_zero, Nat.reduceAdd]
      refine wpAnyH_take (i := 6) (v := .bool false) rfl (by kernel_rfl) (by kernel_rfl) (by kernel_rfl) (fun _ _ _ h => h) (Or.inl ⟨by rfl, fun w' hS' => by rfl⟩) s1 ?_
      simp only [List.getElem_toArray, List.getElem_cons_succ, List.getElem_cons_zero, Act.put, List.setIfInBounds_toArray, List.set_cons_succ, List.set_cons_zero, Nat.reduceAdd]
      refine wpAnyH_take (i := 7) (v := .bool false) rfl (by kernel_rfl) (by kernel_rfl) (by kernel_rfl) (fun _ _ _ h => h) (Or.inl ⟨by rfl, fun w' hS' => ?_⟩) s1 ?_
      · obtain ⟨q0, q1, q2, q3, q4, q5, q6, q7, q8, q9, q10, q11, q12, q13, q14, q15, q16, q17⟩ := hS'
        go_simp
      simp only [List.getElem_toArray, List.getElem_cons_succ, List.getElem_cons_zero, Act.put, List.setIfInBounds_toArray, List.set_cons_succ, List.set_cons_zero, Nat.reduceAdd]
      refine wpAnyH_take (i := 8) (v := .bool false) rfl (by kernel_rfl) (by kernel_rfl) (by kernel_rfl) (fun _ _ _ h => h) (Or.inl ⟨by rfl, fun w' hS' => by rfl⟩) s1 ?_
      simp only [List.getElem_toArray, List.getElem_cons_succ, List.getElem_cons_zero, Act.put, List.setIfInBounds_toArray, List.set_cons_succ, List.set_cons_zero, Nat.reduceAdd]
      refine wpAnyH_take (i := 9) (v := .bool false) rfl (by kernel_rfl) (by kernel_rfl) (by kernel_rfl) (fun _ _ _ h => h) (Or.inl ⟨by rfl, fun w' hS' => by rfl⟩) s1 ?_
      simp only [List.getElem_toArray, List.getElem_cons_succ, List.getElem_cons_zero, Act.put, List.setIfInBounds_toArray, List.set_cons_succ, List.set_cons_zero, Nat.reduceAdd]
      refine wpAnyH_take (i := 10) (v := val K O S ax Z.length cx) rfl (by kernel_rfl) (by kernel_rfl) (by kernel_rfl) (fun _ _ _ h => h) (Or.inl ⟨by rfl, fun w' hS' => ?_⟩) s1 ?_
      · obtain ⟨q0, q1, q2, q3, q4, q5, q6, q7, q8, q9, q10, q11, q12, q13, q14, q15, q16, q17⟩ := hS'
        go_simp
      simp only [List.getElem_toArray, List.getElem_cons_succ, List.getElem_cons_zero, Act.put, List.setIfInBounds_toArray, List.set_cons_succ, List.set_cons_zero, Nat.reduceAdd]
      refine wpAnyH_take (i := 11) (v := val K O S ay Z.length cy) rfl (by kernel_rfl) (by kernel_rfl) (by kernel_rfl) (fun _ _ _ h => h) (Or.inl ⟨by rfl, fun w' hS' => ?_⟩) s1 ?_
      · obtain ⟨q0, q1, q2, q3, q4, q5, q6, q7, q8, q9, q10, q11, q12, q13, q14, q15, q16, q17⟩ := hS'
        go_simp
      simp only [List.getElem_toArray, List.getElem_cons_succ, List.getElem_cons_zero, Act.put, List.setIfInBounds_toArray, List.set_cons_succ, List.set_cons_zero, Nat.reduceAdd]
      refine Y0.one_call2w (i := 12) (by kernel_rfl) rfl (by rfl) (.tmp 68) (.tmp 69) _ rfl (val K O S ax Z.length cx) (val K O S ay Z.length cy) (by rfl) (by rfl) (enters_of Try.func30 (by kernel_rfl) rfl) ((sI.out _ g1.r2 g1.r3).mono ?_)
      rintro e v2 ⟨rfl, hb2⟩
      have g2 := g1.below hb2
      have s2 := g2.cells
      refine ⟨_, rfl, s2, ?_⟩
      simp only [List.getElem_toArray, List.getElem_cons_succ, List.getElem_cons_zero, Act.put, List.setIfInBounds_toArray, List.set_cons_succ, List.set_cons_zero, Nat.reduceAdd]
      refine wpAnyH_take (i := 13) (v := .bool false) rfl (by kernel_rfl) (by kernel_rfl) (by kernel_rfl) (fun _ _ _ h => h) (Or.inl ⟨by rfl, fun w' hS' => ?_⟩) s2 ?_
      · obtain ⟨q0, q1, q2, q3, q4, q5, q6, q7, q8, q9, q10, q11, q12, q13, q14, q15, q16, q17⟩ := hS'
        go_simp
      simp only [List.getElem_toArray, List.getElem_cons_succ, List.getElem_cons_zero, Act.put, List.setIfInBounds_toArray, List.set_cons_succ, List.set_cons_zero, Nat.reduceAdd]
      refine wpAnyH_take (i := 14) (v := .bool false) rfl (by kernel_rfl) (by kernel_rfl) (by kernel_rfl) (fun _ _ _ h => h) (Or.inl ⟨by rfl, fun w' hS' => by rfl⟩) s2 ?_
      simp only [List.getElem_toArray, List.getElem_cons_succ, List.getElem_cons_zero, Act.put, List.setIfInBounds_toArray, List.set_cons_succ, List.set_cons_zero, Nat.reduceAdd]
      refine wpAnyH_take (i := 15) (v := .bool false) rfl (by kernel_rfl) (by kernel_rfl) (by kernel_rfl) (fun _ _ _ h => h) (Or.inl ⟨by rfl, fun w' hS' => by rfl⟩) s2 ?_
      simp only [List.getElem_toArray, List.getElem_cons_succ, List.getElem_cons_zero, Act.put, List.setIfInBounds_toArray, List.set_cons_succ, List.set_cons_zero, Nat.reduceAdd]
      refine wpAnyH_take (i := 16) (v := .string pv) rfl (by kernel_rfl) (by kernel_rfl) (by kernel_rfl) (fun _ _ _ h => h) (Or.inl ⟨by rfl, fun w' hS' => by rfl⟩) s2 ?_
      simp only [List.getElem_toArray, List.getElem_cons_succ, List.getElem_cons_zero, Act.put, List.setIfInBounds_toArray, List.set_cons_succ, List.set_cons_zero, Nat.reduceAdd]
      refine wpAnyH_take (i := 17) (v := ev i nm) rfl (by kernel_rfl) (by kernel_rfl) (by kernel_rfl) (fun _ _ _ h => h) (Or.inl ⟨by rfl, fun w' hS' => ?_⟩) s2 ?_
      · obtain ⟨q0, q1, q2, q3, q4, q5, q6, q7, q8, q9, q10, q11, q12, q13, q14, q15, q16, q17⟩ := hS'
        go_simp
      simp only [List.getElem_toArray, List.getElem_cons_succ, List.getElem_cons_zero, Act.put, List.setIfInBounds_toArray, List.set_cons_succ, List.set_cons_zero, Nat.reduceAdd]
      refine Y0.one_callw (i := 18) (by kernel_rfl) rfl (by rfl) (.tmp 75) _ rfl (ev i nm) (by rfl) (enters_of Try.func31 (by kernel_rfl) rfl) ((sPE.out _).mono ?_)
      rintro e v3 ⟨rfl, hb3⟩
      have g3 := g2.below hb3
      have s3 := g3.cells
      refine ⟨_, rfl, s3, ?_⟩
      simp only [List.getElem_toArray, List.getElem_cons_succ, List.getElem_cons_zero, Act.put, List.setIfInBounds_toArray, List.set_cons_succ, List.set_cons_zero, Nat.reduceAdd]
      refine wpAnyH_take (i := 19) (v := .bool false) rfl (by kernel_rfl) (by kernel_rfl) (by kernel_rfl) (fun _ _ _ h => h) (Or.inl ⟨by rfl, fun w' hS' => ?_⟩) s3 ?_
      · obtain ⟨q0, q1, q2, q3, q4, q5, q6, q7, q8, q9, q10, q11, q12, q13, q14, q15, q16, q17⟩ := hS'
        go_simp
      simp only [List.getElem_toArray, List.getElem_cons_succ, List.getElem_cons_zero, Act.put, List.setIfInBounds_toArray, List.set_cons_succ, List.set_cons_zero, Nat.reduceAdd]
      refine wpAnyH_take (i := 20) (v := .bool false) rfl (by kernel_rfl) (by kernel_rfl) (by kernel_rfl) (fun _ _ _ h => h) (Or.inl ⟨by rfl, fun w' hS' => by rfl⟩) s3 ?_
      simp only [List.getElem_toArray, List.getElem_cons_succ, List.getElem_cons_zero, Act.put, List.setIfInBounds_toArray, List.set_cons_succ, List.set_cons_zero, Nat.reduceAdd]
      refine wpAnyH_take (i := 21) (v := .bool false) rfl (by kernel_rfl) (by kernel_rfl) (by kernel_rfl) (fun _ _ _ h => h) (Or.inl ⟨by rfl, fun w' hS' => by rfl⟩) s3 ?_
      simp only [List.getElem_toArray, List.getElem_cons_succ, List.getElem_cons_zero, Act.put, List.setIfInBounds_toArray, List.set_cons_succ, List.set_cons_zero, Nat.reduceAdd]
      refine wpAnyH_take (i := 22) (v := .bool true) rfl (by kernel_rfl) (by kernel_rfl) (by kernel_rfl) (fun _ _ _ h => h) (Or.inl ⟨by rfl, fun w' hS' => by rfl⟩) s3 ?_
      simp only [List.getElem_toArray, List.getElem_cons_succ, List.getElem_cons_zero, Act.put, List.setIfInBounds_toArray, List.set_cons_succ, List.set_cons_zero, Nat.reduceAdd]
      refine wpAnyH_take (i := 23) (v := .bool true) rfl (by kernel_rfl) (by kernel_rfl) (by kernel_rfl) (fun _ _ _ h => h) (Or.inl ⟨by rfl, fun w' hS' => by rfl⟩) s3 ?_
      simp only [List.getElem_toArray, List.getElem_cons_succ, List.getElem_cons_zero, Act.put, List.setIfInBounds_toArray, List.set_cons_succ, List.set_cons_zero, Nat.reduceAdd]
      refine wpAnyH_take (i := 24) (v := .bool false) rfl (by kernel_rfl) (by kernel_rfl) (by kernel_rfl) (fun _ _ _ h => h) (Or.inl ⟨by rfl, fun w' hS' => ?_⟩) s3 ?_
      · obtain ⟨q0, q1, q2, q3, q4, q5, q6, q7, q8, q9, q10, q11, q12, q13, q14, q15, q16, q17⟩ := hS'
        go_simp
      simp only [List.getElem_toArray, List.getElem_cons_succ, List.getElem_cons_zero, Act.put, List.setIfInBounds_toArray, List.set_cons_succ, List.set_cons_zero, Nat.reduceAdd]
      refine wpAnyH_take (i := 25) (v := .bool false) rfl (by kernel_rfl) (by kernel_rfl) (by kernel_rfl) (fun _ _ _ h => h) (Or.inl ⟨by rfl, fun w' hS' => by rfl⟩) s3 ?_
      simp only [List.getElem_toArray, List.getElem_cons_succ, List.getElem_cons_zero, Act.put, List.setIfInBounds_toArray, List.set_cons_succ, List.set_cons_zero, Nat.reduceAdd]
      refine wpAnyH_take (i := 26) (v := .bool false) rfl (by kernel_rfl) (by kernel_rfl) (by kernel_rfl) (fun _ _ _ h => h) (Or.inl ⟨by rfl, fun w' hS' => by rfl⟩) s3 ?_
      simp only [List.getElem_toArray, List.getElem_cons_succ, List.getElem_cons_zero, Act.put, List.setIfInBounds_toArray, List.set_cons_succ, List.set_cons_zero, Nat.reduceAdd]
      refine wpAnyH_take (i := 27) (v := ev I N) rfl (by kernel_rfl) (by kernel_rfl) (by kernel_rfl) (fun _ _ _ h => h) (Or.inl ⟨by rfl, fun w' hS' => ?_⟩) s3 ?_
      · obtain ⟨q0, q1, q2, q3, q4, q5, q6, q7, q8, q9, q10, q11, q12, q13, q14, q15, q16, q17⟩ := hS'
        go_simp
      simp only [List.getElem_toArray, List.getElem_cons_succ, List.getElem_cons_zero, Act.put, List.setIfInBounds_toArray, List.set_cons_succ, List.set_cons_zero, Nat.reduceAdd]
      refine wpAnyH_take (i := 28) (v := ev I N) rfl (by kernel_rfl) (by kernel_rfl) (by kernel_rfl) (fun _ _ _ h => h) (Or.inl ⟨by rfl, fun w' hS' => ?_⟩) s3 ?_
      · obtain ⟨q0, q1, q2, q3, q4, q5, q6, q7, q8, q9, q10, q11, q12, q13, q14, q15, q16, q17⟩ := hS'
        go_simp
      simp only [List.getElem_toArray, List.getElem_cons_succ, List.getElem_cons_zero, Act.put, List.setIfInBounds_toArray, List.set_cons_succ, List.set_cons_zero, Nat.reduceAdd]
      refine wpAnyH_take (i := 29) (v := .bool false) rfl (by kernel_rfl) (by kernel_rfl) (by kernel_rfl) (fun _ _ _ h => h) (Or.inl ⟨by rfl, fun w' hS' => ?_⟩) s3 ?_
      · obtain ⟨q0, q1, q2, q3, q4, q5, q6, q7, q8, q9, q10, q11, q12, q13, q14, q15, q16, q17⟩ := hS'
        go_simp
      simp only [List.getElem_toArray, List.getElem_cons_succ, List.getElem_cons_zero, Act.put, List.setIfInBounds_toArray, List.set_cons_succ, List.set_cons_zero, Nat.reduceAdd]
      refine wpAnyH_take (i := 30) (v := .bool false) rfl (by kernel_rfl) (by kernel_rfl) (by kernel_rfl) (fun _ _ _ h => h) (Or.inl ⟨by rfl, fun w' hS' => by rfl⟩) s3 ?_
      simp only [List.getElem_toArray, List.getElem_cons_succ, List.getElem_cons_zero, Act.put, List.setIfInBounds_toArray, List.set_cons_succ, List.set_cons_zero, Nat.reduceAdd]
      refine wpAnyH_take (i := 31) (v := .bool false) rfl (by kernel_rfl) (by kernel_rfl) (by kernel_rfl) (fun _ _ _ h => h) (Or.inl ⟨by rfl, fun w' hS' => by rfl⟩) s3 ?_
      simp only [List.getElem_toArray, List.getElem_cons_succ, List.getElem_cons_zero, Act.put, List.setIfInBounds_toArray, List.set_cons_succ, List.set_cons_zero, Nat.reduceAdd]
      refine wpAnyH_take (i := 32) (v := val k o s p zs.length cp) rfl (by kernel_rfl) (by kernel_rfl) (by kernel_rfl) (fun _ _ _ h => h) (Or.inl ⟨by rfl, fun w' hS' => ?_⟩) s3 ?_
      · obtain ⟨q0, q1, q2, q3, q4, q5, q6, q7, q8, q9, q10, q11, q12, q13, q14, q15, q16, q17⟩ := hS'
        go_simp
      simp only [List.getElem_toArray, List.getElem_cons_succ, List.getElem_cons_zero, Act.put, List.setIfInBounds_toArray, List.set_cons_succ, List.set_cons_zero, Nat.reduceAdd]
      refine wpAnyH_take (i := 34) (v := val k o s p zs.length cp) rfl (by kernel_rfl) (by kernel_rfl) (by kernel_rfl) (fun _ _ _ h => h) (Or.inl ⟨by rfl, fun w' hS' => ?_⟩) s3 ?_
      · obtain ⟨q0, q1, q2, q3, q4, q5, q6, q7, q8, q9, q10, q11, q12, q13, q14, q15, q16, q17⟩ := hS'
        go_simp
      simp only [List.getElem_toArray, List.getElem_cons_succ, List.getElem_cons_zero, Act.put, List.setIfInBounds_toArray, List.set_cons_succ, List.set_cons_zero, Nat.reduceAdd]
      refine Y0.one_callw (i := 33) (by kernel_rfl) rfl (by rfl) (.tmp 90) _ rfl (val k o s p zs.length cp) (by rfl) (enters_of Try.func32 (by kernel_rfl) rfl) ((iOk.out _ g3.r1).mono ?_)
      rintro e v4 ⟨rfl, hb4⟩
      have g4 := g3.below hb4
      have s4 := g4.cells
      refine ⟨_, rfl, s4, ?_⟩
      simp only [List.getElem_toArray, List.getElem_cons_succ, List.getElem_cons_zero, Act.put, List.setIfInBounds_toArray, List.set_cons_succ, List.set_cons_zero, Nat.reduceAdd]
      refine Y0.one_callw (i := 35) (by kernel_rfl) rfl (by rfl) (.tmp 92) _ rfl (val k o s p zs.length cp) (by rfl) (enters_of Try.func33 (by kernel_rfl) rfl) ((sOk.out _ g4.r1).mono ?_)
      rintro e v5 ⟨rfl, hb5⟩
      have g5 := g4.below hb5
      have s5 := g5.cells
      refine ⟨_, rfl, s5, ?_⟩
      simp only [List.getElem_toArray, List.getElem_cons_succ, List.getElem_cons_zero, Act.put, List.setIfInBounds_toArray, List.set_cons_succ, List.set_cons_zero, Nat.reduceAdd]
      refine wpAnyH_take (i := 36) (v := .bool false) rfl (by kernel_rfl) (by kernel_rfl) (by kernel_rfl) (fun _ _ _ h => h) (Or.inl ⟨by rfl, fun w' hS' => ?_⟩) s5 ?_
      · obtain ⟨q0, q1, q2, q3, q4, q5, q6, q7, q8, q9, q10, q11, q12, q13, q14, q15, q16, q17⟩ := hS'
        go_simp
      simp only [List.getElem_toArray, List.getElem_cons_succ, List.getElem_cons_zero, Act.put, List.setIfInBounds_toArray, List.set_cons_succ, List.set_cons_zero, Nat.reduceAdd]
      refine wpAnyH_take (i := 37) (v := .bool false) rfl (by kernel_rfl) (by kernel_rfl) (by kernel_rfl) (fun _ _ _ h => h) (Or.inl ⟨by rfl, fun w' hS' => by rfl⟩) s5 ?_
      simp only [List.getElem_toArray, List.getElem_cons_succ, List.getElem_cons_zero, Act.put, List.setIfInBounds_toArray, List.set_cons_succ, List.set_cons_zero, Nat.reduceAdd]
      refine wpAnyH_take (i := 38) (v := .bool false) rfl (by kernel_rfl) (by kernel_rfl) (by kernel_rfl) (fun _ _ _ h => h) (Or.inl ⟨by rfl, fun w' hS' => by rfl⟩) s5 ?_
      simp only [List.getElem_toArray, List.getElem_cons_succ, List.getElem_cons_zero, Act.put, List.setIfInBounds_toArray, List.set_cons_succ, List.set_cons_zero, Nat.reduceAdd]
      refine wpAnyH_take (i := 39) (v := ev i nm) rfl (by kernel_rfl) (by kernel_rfl) (by kernel_rfl) (fun _ _ _ h => h) (Or.inl ⟨by rfl, fun w' hS' => ?_⟩) s5 ?_
      · obtain ⟨q0, q1, q2, q3, q4, q5, q6, q7, q8, q9, q10, q11, q12, q13, q14, q15, q16, q17⟩ := hS'
        go_simp
      simp only [List.getElem_toArray, List.getElem_cons_succ, List.getElem_cons_zero, Act.put, List.setIfInBounds_toArray, List.set_cons_succ, List.set_cons_zero, Nat.reduceAdd]
      refine wpAnyH_take (i := 41) (v := ev i nm) rfl (by kernel_rfl) (by kernel_rfl) (by kernel_rfl) (fun _ _ _ h => h) (Or.inl ⟨by rfl, fun w' hS' => ?_⟩) s5 ?_
      · obtain ⟨q0, q1, q2, q3, q4, q5, q6, q7, q8, q9, q10, q11, q12, q13, q14, q15, q16, q17⟩ := hS'
        go_simp
      simp only [List.getElem_toArray, List.getElem_cons_succ, List.getElem_cons_zero, Act.put, List.setIfInBounds_toArray, List.set_cons_succ, List.set_cons_zero, Nat.reduceAdd]
      refine Y0.one_callw (i := 40) (by kernel_rfl) rfl (by rfl) (.tmp 97) _ rfl (ev i nm) (by rfl) (enters_of Try.func34 (by kernel_rfl) rfl) ((iEO.out _).mono ?_)
      rintro e v6 ⟨rfl, hb6⟩
      have g6 := g5.below hb6
      have s6 := g6.cells
      refine ⟨_, rfl, s6, ?_⟩
      simp only [List.getElem_toArray, List.getElem_cons_succ, List.getElem_cons_zero, Act.put, List.setIfInBounds_toArray, List.set_cons_succ, List.set_cons_zero, Nat.reduceAdd]
      refine Y0.one_callw (i := 42) (by kernel_rfl) rfl (by rfl) (.tmp 99) _ rfl (ev i nm) (by rfl) (enters_of Try.func35 (by kernel_rfl) rfl) ((sEO.out _).mono ?_)
      rintro e v7 ⟨rfl, hb7⟩
      have g7 := g6.below hb7
      have s7 := g7.cells
      refine ⟨_, rfl, s7, ?_⟩
      simp only [List.getElem_toArray, List.getElem_cons_succ, List.getElem_cons_zero, Act.put, List.setIfInBounds_toArray, List.set_cons_succ, List.set_cons_zero, Nat.reduceAdd]
      refine wpAnyH_take (i := 43) (v := .bool false) rfl (by kernel_rfl) (by kernel_rfl) (by kernel_rfl) (fun _ _ _ h => h) (Or.inl ⟨by rfl, fun w' hS' => ?_⟩) s7 ?_
      · obtain ⟨q0, q1, q2, q3, q4, q5, q6, q7, q8, q9, q10, q11, q12, q13, q14, q15, q16, q17⟩ := hS'
        go_simp
      simp only [List.getElem_toArray, List.getElem_cons_succ, List.getElem_cons_zero, Act.put, List.setIfInBounds_toArray, List.set_cons_succ, List.set_cons_zero, Nat.reduceAdd]
      refine wpAnyH_take (i := 44) (v := .bool false) rfl (by kernel_rfl) (by kernel_rfl) (by kernel_rfl) (fun _ _ _ h => h) (Or.inl ⟨by rfl, fun w' hS' => by rfl⟩) s7 ?_
      simp only [List.getElem_toArray, List.getElem_cons_succ, List.getElem_cons_zero, Act.put, List.setIfInBounds_toArray, List.set_cons_succ, List.set_cons_zero, Nat.reduceAdd]
      refine wpAnyH_take (i := 45) (v := .bool false) rfl (by kernel_rfl) (by kernel_rfl) (by kernel_rfl) (fun _ _ _ h => h) (Or.inl ⟨by rfl, fun w' hS' => by rfl⟩) s7 ?_
      simp only [List.getElem_toArray, List.getElem_cons_succ, List.getElem_cons_zero, Act.put, List.setIfInBounds_toArray, List.set_cons_succ, List.set_cons_zero, Nat.reduceAdd]
      refine wpAnyH_take (i := 46) (v := .int .i64 ri) rfl (by kernel_rfl) (by kernel_rfl) (by kernel_rfl) (fun _ _ _ h => h) (Or.inl ⟨by rfl, fun w' hS' => by rfl⟩) s7 ?_
      simp only [List.getElem_toArray, List.getElem_cons_succ, List.getElem_cons_zero, Act.put, List.setIfInBounds_toArray, List.set_cons_succ, List.set_cons_zero, Nat.reduceAdd]
      refine wpAnyH_take (i := 48) (v := .int .i64 ri) rfl (by kernel_rfl) (by kernel_rfl) (by kernel_rfl) (fun _ _ _ h => h) (Or.inl ⟨by rfl, fun w' hS' => by rfl⟩) s7 ?_
      simp only [List.getElem_toArray, List.getElem_cons_succ, List.getElem_cons_zero, Act.put, List.setIfInBounds_toArray, List.set_cons_succ, List.set_cons_zero, Nat.reduceAdd]
      refine Y0.one_callw (i := 47) (by kernel_rfl) rfl (by rfl) (.tmp 104) _ rfl (.int .i64 ri) (by rfl) (enters_of Try.func36 (by kernel_rfl) rfl) ((L1.impl_RecAt ri _).mono ?_)
      rintro e vq ⟨rfl, rfl⟩
      refine ⟨_, rfl, s7, ?_⟩
      simp only [List.getElem_toArray, List.getElem_cons_succ, List.getElem_cons_zero, Act.put, List.setIfInBounds_toArray, List.set_cons_succ, List.set_cons_zero, Nat.reduceAdd]
      refine Y0.one_callw (i := 49) (by kernel_rfl) rfl (by rfl) (.tmp 106) _ rfl (.int .i64 ri) (by rfl) (enters_of Try.func37 (by kernel_rfl) rfl) ((L1.spec_RecAt ri _).mono ?_)
      rintro e vq ⟨rfl, rfl⟩
      refine ⟨_, rfl, s7, ?_⟩
      simp only [List.getElem_toArray, List.getElem_cons_succ, List.getElem_cons_zero, Act.put, List.setIfInBounds_toArray, List.set_cons_succ, List.set_cons_zero, Nat.reduceAdd]
      refine wpAnyH_take (i := 50) (v := .bool false) rfl (by kernel_rfl) (by kernel_rfl) (by kernel_rfl) (fun _ _ _ h => h) (Or.inl ⟨by rfl, fun w' hS' => ?_⟩) s7 ?_
      · obtain ⟨q0, q1, q2, q3, q4, q5, q6, q7, q8, q9, q10, q11, q12, q13, q14, q15, q16, q17⟩ := hS'
        go_simp
      simp only [List.getElem_toArray, List.getElem_cons_succ, List.getElem_cons_zero, Act.put, List.setIfInBounds_toArray, List.set_cons_succ, List.set_cons_zero, Nat.reduceAdd]
      refine wpAnyH_take (i := 51) (v := .bool false) rfl (by kernel_rfl) (by kernel_rfl) (by kernel_rfl) (fun _ _ _ h => h) (Or.inl ⟨by rfl, fun w' hS' => by rfl⟩) s7 ?_
      simp only [List.getElem_toArray, List.getElem_cons_succ, List.getElem_cons_zero, Act.put, List.setIfInBounds_toArray, List.set_cons_succ, List.set_cons_zero, Nat.reduceAdd]
      refine wpAnyH_take (i := 52) (v := .bool false) rfl (by kernel_rfl) (by kernel_rfl) (by kernel_rfl) (fun _ _ _ h => h) (Or.inl ⟨by rfl, fun w' hS' => by rfl⟩) s7 ?_
      simp only [List.getElem_toArray, List.getElem_cons_succ, List.getElem_cons_zero, Act.put, List.setIfInBounds_toArray, List.set_cons_succ, List.set_cons_zero, Nat.reduceAdd]
      refine wpAnyH_take (i := 53) (v := .bool false) rfl (by kernel_rfl) (by kernel_rfl) (by kernel_rfl) (fun _ _ _ h => h) (Or.inl ⟨by rfl, fun w' hS' => by rfl⟩) s7 ?_
      simp only [List.getElem_toArray, List.getElem_cons_succ, List.getElem_cons_zero, Act.put, List.setIfInBounds_toArray, List.set_cons_succ, List.set_cons_zero, Nat.reduceAdd]
      refine wpAnyH_take (i := 54) (v := .bool false) rfl (by kernel_rfl) (by kernel_rfl) (by kernel_rfl) (fun _ _ _ h => h) (Or.inl ⟨by rfl, fun w' hS' => by rfl⟩) s7 ?_
      simp only [List.getElem_toArray, List.getElem_cons_succ, List.getElem_cons_zero, Act.put, List.setIfInBounds_toArray, List.set_cons_succ, List.set_cons_zero, Nat.reduceAdd]
      refine wpAnyH_take (i := 55) (v := undef) rfl (by kernel_rfl) (by kernel_rfl) (by kernel_rfl) (fun _ _ _ h => h) (Or.inr ⟨by rfl, rfl⟩) s7 ?_
      simp only [List.getElem_toArray, List.getElem_cons_succ, List.getElem_cons_zero, Act.put, List.setIfInBounds_toArray, List.set_cons_succ, List.set_cons_zero, Nat.reduceAdd]
      refine wpAnyH_take (i := 56) (v := undef) rfl (by kernel_rfl) (by kernel_rfl) (by kernel_rfl) (fun _ _ _ h => h) (Or.inr ⟨by rfl, rfl⟩) s7 ?_
      simp only [List.getElem_toArray, List.getElem_cons_succ, List.getElem_cons_zero, Act.put, List.setIfInBounds_toArray, List.set_cons_succ, List.set_cons_zero, Nat.reduceAdd]
      refine wpAnyH_take (i := 57) (v := undef) rfl (by kernel_rfl) (by kernel_rfl) (by kernel_rfl) (fun _ _ _ h => h) (Or.inr ⟨by rfl, rfl⟩) s7 ?_
      simp only [List.getElem_toArray, List.getElem_cons_succ, List.getElem_cons_zero, Act.put, List.setIfInBounds_toArray, List.set_cons_succ, List.set_cons_zero, Nat.reduceAdd]
      refine wpAnyH_take (i := 58) (v := undef) rfl (by kernel_rfl) (by kernel_rfl) (by kernel_rfl) (fun _ _ _ h => h) (Or.inr ⟨by rfl, rfl⟩) s7 ?_
      simp only [List.getElem_toArray, List.getElem_cons_succ, List.getElem_cons_zero, Act.put, List.setIfInBounds_toArray, List.set_cons_succ, List.set_cons_zero, Nat.reduceAdd]
      refine wpAnyH_take (i := 59) (v := .bool false) rfl (by kernel_rfl) (by kernel_rfl) (by kernel_rfl) (fun _ _ _ h => h) (Or.inl ⟨by rfl, fun w' hS' => by rfl⟩) s7 ?_
      simp only [List.getElem_toArray, List.getElem_cons_succ, List.getElem_cons_zero, Act.put, List.setIfInBounds_toArray, List.set_cons_succ, List.set_cons_zero, Nat.reduceAdd]
      refine wpAnyH_take (i := 60) (v := .bool false) rfl (by kernel_rfl) (by kernel_rfl) (by kernel_rfl) (fun _ _ _ h => h) (Or.inl ⟨by rfl, fun w' hS' => by rfl⟩) s7 ?_
      simp only [List.getElem_toArray, List.getElem_cons_succ, List.getElem_cons_zero, Act.put, List.setIfInBounds_toArray, List.set_cons_succ, List.set_cons_zero, Nat.reduceAdd]
      refine wpAnyH_take (i := 61) (v := .bool false) rfl (by kernel_rfl) (by kernel_rfl) (by kernel_rfl) (fun _ _ _ h => h) (Or.inl ⟨by rfl, fun w' hS' => by rfl⟩) s7 ?_
      simp only [List.getElem_toArray, List.getElem_cons_succ, List.getElem_cons_zero, Act.put, List.setIfInBounds_toArray, List.set_cons_succ, List.set_cons_zero, Nat.reduceAdd]
      refine wpAnyH_take (i := 62) (v := .bool true) rfl (by kernel_rfl) (by kernel_rfl) (by kernel_rfl) (fun _ _ _ h => h) (Or.inl ⟨by rfl, fun w' hS' => by rfl⟩) s7 ?_
      simp only [List.getElem_toArray, List.getElem_cons_succ, List.getElem_cons_zero, Act.put, List.setIfInBounds_toArray, List.set_cons_succ, List.set_cons_zero, Nat.reduceAdd]
      refine wpAnyH_take (i := 63) (v := .bool true) rfl (by kernel_rfl) (by kernel_rfl) (by kernel_rfl) (fun _ _ _ h => h) (Or.inl ⟨by rfl, fun w' hS' => by rfl⟩) s7 ?_
      simp only [List.getElem_toArray, List.getElem_cons_succ, List.getElem_cons_zero, Act.put, List.setIfInBounds_toArray, List.set_cons_succ, List.set_cons_zero, Nat.reduceAdd]
      refine wpAnyH_take (i := 64) (v := ev I N) rfl (by kernel_rfl) (by kernel_rfl) (by kernel_rfl) (fun _ _ _ h => h) (Or.inl ⟨by rfl, fun w' hS' => ?_⟩) s7 ?_
      · obtain ⟨q0, q1, q2, q3, q4, q5, q6, q7, q8, q9, q10, q11, q12, q13, q14, q15, q16, q17⟩ := hS'
        go_simp
      simp only [List.getElem_toArray, List.getElem_cons_succ, List.getElem_cons_zero, Act.put, List.setIfInBounds_toArray, List.set_cons_succ, List.set_cons_zero, Nat.reduceAdd]
      refine wpAnyH_take (i := 66) (v := .string v) rfl (by kernel_rfl) (by kernel_rfl) (by kernel_rfl) (fun _ _ _ h => h) (Or.inl ⟨by rfl, fun w' hS' => by rfl⟩) s7 ?_
      simp only [List.getElem_toArray, List.getElem_cons_succ, List.getElem_cons_zero, Act.put, List.setIfInBounds_toArray, List.set_cons_succ, List.set_cons_zero, Nat.reduceAdd]
      refine Y0.one_callw (i := 65) (by kernel_rfl) rfl (by rfl) (.tmp 122) _ rfl (ev I N) (by rfl) (enters_of Try.func24 (by kernel_rfl) rfl) ((iPE.out (by trivial) _).mono ?_)
      rintro e v8 ⟨rfl, hb8⟩
      have g8 := g7.below hb8
      have s8 := g8.cells
      refine ⟨_, rfl, s8, ?_⟩
      simp only [List.getElem_toArray, List.getElem_cons_succ, List.getElem_cons_zero, Act.put, List.setIfInBounds_toArray, List.set_cons_succ, List.set_cons_zero, Nat.reduceAdd]
      refine wpAnyH_take (i := 67) (v := .bool false) rfl (by kernel_rfl) (by kernel_rfl) (by kernel_rfl) (fun _ _ _ h => h) (Or.inl ⟨by rfl, fun w' hS' => ?_⟩) s8 ?_
      · obtain ⟨q0, q1, q2, q3, q4, q5, q6, q7, q8, q9, q10, q11, q12, q13, q14, q15, q16, q17⟩ := hS'
        go_simp
      simp only [List.getElem_toArray, List.getElem_cons_succ, List.getElem_cons_zero, Act.put, List.setIfInBounds_toArray, List.set_cons_succ, List.set_cons_zero, Nat.reduceAdd]
      refine wpAnyH_take (i := 68) (v := .bool false) rfl (by kernel_rfl) (by kernel_rfl) (by kernel_rfl) (fun _ _ _ h => h) (Or.inl ⟨by rfl, fun w' hS' => by rfl⟩) s8 ?_
      simp only [List.getElem_toArray, List.getElem_cons_succ, List.getElem_cons_zero, Act.put, List.setIfInBounds_toArray, List.set_cons_succ, List.set_cons_zero, Nat.reduceAdd]
      refine wpAnyH_take (i := 69) (v := .bool false) rfl (by kernel_rfl) (by kernel_rfl) (by kernel_rfl) (fun _ _ _ h => h) (Or.inl ⟨by rfl, fun w' hS' => by rfl⟩) s8 ?_
      simp only [List.getElem_toArray, List.getElem_cons_succ, List.getElem_cons_zero, Act.put, List.setIfInBounds_toArray, List.set_cons_succ, List.set_cons_zero, Nat.reduceAdd]
      refine wpAnyH_done (by kernel_rfl) ?_ _
      have g := g8
      clear s1 g1 hb1 s2 g2 hb2 s3 g3 hb3 s4 g4 hb4 s5 g5 hb5 s6 g6 hb6 s7 g7 hb7 s8 g8 hb8
      clear sPI sI sPE iOk sOk iEO iPI iPE
      have s0 := g.k4.c0
      have s1 := g.k4.c1
      by_cases hse : sv.toList = []
      · have hse' : (sv.toList != []) = false := by rw [hse]; rfl
        have hse1 : (sv.toList == []) = true := by rw [hse]; rfl
        by_cases hpe : pv.toList = []
        · have hpe' : (pv.toList == []) = true := by rw [hpe]; rfl
          have hb2 := hnil hpe
          subst hb2
          clear iGI iGE hsv16 hpv16 hnil sI2 hse hpe
          go_wp2_with (first
            | (go_at_call 30; refine (sI2.out _ _ _ x5 g.r1).mono ?_; rintro e v2 ⟨rfl, hb⟩; have g := g.below hb; have s0 := g.k4.c0; have s1 := g.k4.c1)
            | (go_at_call 35; refine (sEO.out _).mono ?_; rintro e v7 ⟨rfl, hb⟩; have g := g.below hb)
            | (go_at_call 21; refine (iGI' _).mono ?_; rintro e va ⟨a5, c5, rfl, x5, hb⟩; have nb := K0.below_new va (.cells #[.int .i64 k, .int .i64 o, .int .i64 s, .slice a5 zs.length c5] 26); have x5 := x5.below nb; have g := (g.below hb).below nb; have p0 := g.k1.c0; have p1 := g.k1.c1; have p2 := g.k1.c2; have p3 := g.k1.c3)
            | (go_at_call 26; refine (iGE' _).mono ?_; rintro e vb ⟨rfl, hb⟩; have nb := K0.below_new vb (.cells #[.int .i64 i, .string nm] 33); have g := (g.below hb).below nb; have s0 := g.k4.c0; have s1 := g.k4.c1))
          go_ret
          exact ⟨rfl, g.bel⟩
        · have hpe' : (pv.toList == []) = false := by simpa using hpe
          have h16 := hpv16 hpe
          have iGE' := iGE.out hpe
          clear iGI iGE hsv16 hpv16 hnil sI2 hse hpe
          go_wp2_with (first
            | (go_at_call 30; refine (sI2.out _ _ _ x5 g.r1).mono ?_; rintro e v2 ⟨rfl, hb⟩; have g := g.below hb; have s0 := g.k4.c0; have s1 := g.k4.c1)
            | (go_at_call 35; refine (sEO.out _).mono ?_; rintro e v7 ⟨rfl, hb⟩; have g := g.below hb)
            | (go_at_call 21; refine (iGI' _).mono ?_; rintro e va ⟨a5, c5, rfl, x5, hb⟩; have nb := K0.below_new va (.cells #[.int .i64 k, .int .i64 o, .int .i64 s, .slice a5 zs.length c5] 26); have x5 := x5.below nb; have g := (g.below hb).below nb; have p0 := g.k1.c0; have p1 := g.k1.c1; have p2 := g.k1.c2; have p3 := g.k1.c3)
            | (go_at_call 26; refine (iGE' _).mono ?_; rintro e vb ⟨rfl, hb⟩; have nb := K0.below_new vb (.cells #[.int .i64 i, .string nm] 33); have g := (g.below hb).below nb; have s0 := g.k4.c0; have s1 := g.k4.c1))
          go_ret
          exact ⟨rfl, g.bel⟩
      · have hse' : (sv.toList != []) = true := by simpa using hse
        have hse1 : (sv.toList == []) = false := by simpa using hse
        have h15 := hsv16 hse
        have iGI' := iGI.out hse
        by_cases hpe : pv.toList = []
        · have hpe' : (pv.toList == []) = true := by rw [hpe]; rfl
          have hb2 := hnil hpe
          subst hb2
          clear iGI iGE hsv16 hpv16 hnil hse hpe
          go_wp2_with (first
            | (go_at_call 30; refine (sI2.out _ _ _ x5 g.r1).mono ?_; rintro e v2 ⟨rfl, hb⟩; have g := g.below hb; have s0 := g.k4.c0; have s1 := g.k4.c1)
            | (go_at_call 35; refine (sEO.out _).mono ?_; rintro e v7 ⟨rfl, hb⟩; have g := g.below hb)
            | (go_at_call 21; refine (iGI' _).mono ?_; rintro e va ⟨a5, c5, rfl, x5, hb⟩; have nb := K0.below_new va (.cells #[.int .i64 k, .int .i64 o, .int .i64 s, .slice a5 zs.length c5] 26); have x5 := x5.below nb; have g := (g.below hb).below nb; have p0 := g.k1.c0; have p1 := g.k1.c1; have p2 := g.k1.c2; have p3 := g.k1.c3)
            | (go_at_call 26; refine (iGE' _).mono ?_; rintro e vb ⟨rfl, hb⟩; have nb := K0.below_new vb (.cells #[.int .i64 i, .string nm] 33); have g := (g.below hb).below nb; have s0 := g.k4.c0; have s1 := g.k4.c1))
          go_ret
          exact ⟨rfl, g.bel⟩
        · have hpe' : (pv.toList == []) = false := by simpa using hpe
          have h16 := hpv16 hpe
          have iGE' := iGE.out hpe
          clear iGI iGE hsv16 hpv16 hnil hse hpe
          go_wp2_with (first
            | (go_at_call 30; refine (sI2.out _ _ _ x5 g.r1).mono ?_; rintro e v2 ⟨rfl, hb⟩; have g := g.below hb; have s0 := g.k4.c0; have s1 := g.k4.c1)
            | (go_at_call 35; refine (sEO.out _).mono ?_; rintro e v7 ⟨rfl, hb⟩; have g := g.below hb)
            | (go_at_call 21; refine (iGI' _).mono ?_; rintro e va ⟨a5, c5, rfl, x5, hb⟩; have nb := K0.below_new va (.cells #[.int .i64 k, .int .i64 o, .int .i64 s, .slice a5 zs.length c5] 26); have x5 := x5.below nb; have g := (g.below hb).below nb; have p0 := g.k1.c0; have p1 := g.k1.c1; have p2 := g.k1.c2; have p3 := g.k1.c3)
            | (go_at_call 26; refine (iGE' _).mono ?_; rintro e vb ⟨rfl, hb⟩; have nb := K0.below_new vb (.cells #[.int .i64 i, .string nm] 33); have g := (g.below hb).below nb; have s0 := g.k4.c0; have s1 := g.k4.c1))
          go_ret
          exact ⟨rfl, g.bel⟩

  · cases be
    · skip
      refine wp_region_held (S := fun W => W.cell? ⟨B1, 0, none⟩ = some (.int .i64 k) ∧ W.cell? ⟨B1, 1, none⟩ = some (.int .i64 o) ∧ W.cell? ⟨B1, 2, none⟩ = some (.int .i64 s) ∧ W.cell? ⟨B1, 3, none⟩ = some (.slice p zs.length cp) ∧ W.cell? ⟨B2, 0, none⟩ = some (.int .i64 K) ∧ W.cell? ⟨B2, 1, none⟩ = some (.int .i64 O) ∧ W.cell? ⟨B2, 2, none⟩ = some (.int .i64 S) ∧ W.cell? ⟨B2, 3, none⟩ = some (.slice ax Z.length cx) ∧ W.cell? ⟨B3, 0, none⟩ = some (.int .i64 K) ∧ W.cell? ⟨B3, 1, none⟩ = some (.int .i64 O) ∧ W.cell? ⟨B3, 2, none⟩ = some (.int .i64 S) ∧ W.cell? ⟨B3, 3, none⟩ = some (.slice ay Z.length cy) ∧ W.cell? ⟨B4, 0, none⟩ = some (.int .i64 i) ∧ W.cell? ⟨B4, 1, none⟩ = some (.string nm) ∧ W.cell? ⟨B5, 0, none⟩ = some (.int .i64 I) ∧ W.cell? ⟨B5, 1, none⟩ = some (.string N) ∧ W.cell? ⟨B6, 0, none⟩ = some (.int .i64 I) ∧ W.cell? ⟨B6, 1, none⟩ = some (.string N)) (by kernel_rfl) ?_
      refine wpAnyH_take (i := 0) (v := .string sv) rfl (by kernel_rfl) (by kernel_rfl) (by kernel_rfl) (fun _ _ _ h => h) (Or.inl ⟨by rfl, fun w' hS' => by rfl⟩) s0 ?_
      simp only [List.getElem_toArray, List.getElem_cons_succ, List.getElem_cons_zero, Act.put, List.setIfInBounds_toArray, List.set_cons_succ, List.set_cons_zero, Nat.reduceAdd]
      refine wpAnyH_take (i := 1) (v := val k o s p zs.length cp) rfl (by kernel_rfl) (by kernel_rfl) (by kernel_rfl) (fun _ _ _ h => h) (Or.inl ⟨by rfl, fun w' hS' => ?_⟩) s0 ?_
      · obtain ⟨q0, q1, q2, q3, q4, q5, q6, q7, q8, q9, q10, q11, q12, q13, q14, q15, q16, q17⟩ := hS'
        go_simp
      simp only [List.getElem_toArray, List.getElem_cons_succ, List.getElem_cons_zero, Act.put, List.setIfInBounds_toArray, List.set_cons_succ, List.set_cons_zero, Nat.reduceAdd]
      refine Y0.one_callw (i := 2) (by kernel_rfl) rfl (by rfl) (.tmp 59) _ rfl (val k o s p zs.length cp) (by rfl) (enters_of Try.func29 (by kernel_rfl) rfl) ((sPI.out _ g.r1).mono ?_)
      rintro e v1 ⟨rfl, hb1⟩
      have g1 := g.below hb1
      have s1 := g1.cells
      refine ⟨_, rfl, s1, ?_⟩
      simp only [List.getElem_toArray, List.getElem_cons_succ, List.getElem_cons_zero, Act.put, List.setIfInBounds_toArray, List.set_cons_succ, List.set_cons_zero, Nat.reduceAdd]
      refine wpAnyH_take (i := 3) (v := .bool false) rfl (by kernel_rfl) (by kernel_rfl) (by kernel_rfl) (fun _ _ _ h => h) (Or.inl ⟨by rfl, fun w' hS' => ?_⟩) s1 ?_
      · obtain ⟨q0, q1, q2, q3, q4, q5, q6, q7, q8, q9, q10, q11, q12, q13, q14, q15, q16, q17⟩ := hS'
        go_simp
      simp only [List.getElem_toArray, List.getElem_cons_succ, List.getElem_cons_zero, Act.put, List.setIfInBounds_toArray, List.set_cons_succ, List.set_cons_zero, Nat.reduceAdd]
      refine wpAnyH_take (i := 4) (v := .bool false) rfl (by kernel_rfl) (by kernel_rfl) (by kernel_rfl) (fun _ _ _ h => h) (Or.inl ⟨by rfl, fun w' hS' => by rfl⟩) s1 ?_
      simp only [List.getElem_toArray, List.getElem_cons_succ, List.getElem_cons_zero, Act.put, List.setIfInBounds_toArray, List.set_cons_succ, List.set_cons_zero, Nat.reduceAdd]
      refine wpAnyH_take (i := 5) (v := .bool true) rfl (by kernel_rfl) (by kernel_rfl) (by kernel_rfl) (fun _ _ _ h => h) (Or.inl ⟨by rfl, fun w' hS' => by rfl⟩) s1 ?_
      simp only [List.getElem_toArray, List.getElem_cons_succ, List.getElem_cons_zero, Act.put, List.setIfInBounds_toArray, List.set_cons_succ, List.set_cons_zero, Nat.reduceAdd]
      refine wpAnyH_take (i := 6) (v := .bool true) rfl (by kernel_rfl) (by kernel_rfl) (by kernel_rfl) (fun _ _ _ h => h) (Or.inl ⟨by rfl, fun w' hS' => by rfl⟩) s1 ?_
      simp only [List.getElem_toArray, List.getElem_cons_succ, List.getElem_cons_zero, Act.put, List.setIfInBounds_toArray, List.set_cons_succ, List.set_cons_zero, Nat.reduceAdd]
      refine wpAnyH_take (i := 7) (v := .bool false) rfl (by kernel_rfl) (by kernel_rfl) (by kernel_rfl) (fun _ _ _ h => h) (Or.inl ⟨by rfl, fun w' hS' => ?_⟩) s1 ?_
      · obtain ⟨q0, q1, q2, q3, q4, q5, q6, q7, q8, q9, q10, q11, q12, q13, q14, q15, q16, q17⟩ := hS'
        go_simp
      simp only [List.getElem_toArray, List.getElem_cons_succ, List.getElem_cons_zero, Act.put, List.setIfInBounds_toArray, List.set_cons_succ, List.set_cons_zero, Nat.reduceAdd]
      refine wpAnyH_take (i := 8) (v := .bool false) rfl (by kernel_rfl) (by kernel_rfl) (by kernel_rfl) (fun _ _ _ h => h) (Or.inl ⟨by rfl, fun w' hS' => by rfl⟩) s1 ?_
      simp only [List.getElem_toArray, List.getElem_cons_succ, List.getElem_cons_zero, Act.put, List.setIfInBounds_toArray, List.set_cons_succ, List.set_cons_zero, Nat.reduceAdd]
      refine wpAnyH_take (i := 9) (v := .bool false) rfl (by kernel_rfl) (by kernel_rfl) (by kernel_rfl) (fun _ _ _ h => h) (Or.inl ⟨by rfl, fun w' hS' => by rfl⟩) s1 ?_
      simp only [List.getElem_toArray, List.getElem_cons_succ, List.getElem_cons_zero, Act.put, List.setIfInBounds_toArray, List.set_cons_succ, List.set_cons_zero, Nat.reduceAdd]
      refine wpAnyH_take (i := 10) (v := val K O S ax Z.length cx) rfl (by kernel_rfl) (by kernel_rfl) (by kernel_rfl) (fun _ _ _ h => h) (Or.inl ⟨by rfl, fun w' hS' => ?_⟩) s1 ?_
      · obtain ⟨q0, q1, q2, q3, q4, q5, q6, q7, q8, q9, q10, q11, q12, q13, q14, q15, q16, q17⟩ := hS'
        go_simp
      simp only [List.getElem_toArray, List.getElem_cons_succ, List.getElem_cons_zero, Act.put, List.setIfInBounds_toArray, List.set_cons_succ, List.set_cons_zero, Nat.reduceAdd]
      refine wpAnyH_take (i := 11) (v := val K O S ay Z.length cy) rfl (by kernel_rfl) (by kernel_rfl) (by kernel_rfl) (fun _ _ _ h => h) (Or.inl ⟨by rfl, fun w' hS' => ?_⟩) s1 ?_
      · obtain ⟨q0, q1, q2, q3, q4, q5, q6, q7, q8, q9, q10, q11, q12, q13, q14, q15, q16, q17⟩ := hS'
        go_simp
      simp only [List.getElem_toArray, List.getElem_cons_succ, List.getElem_cons_zero, Act.put, List.setIfInBounds_toArray, List.set_cons_succ, List.set_cons_zero, Nat.reduceAdd]
      refine Y0.one_call2w (i := 12) (by kernel_rfl) rfl (by rfl) (.tmp 68) (.tmp 69) _ rfl (val K O S ax Z.length cx) (val K O S ay Z.length cy) (by rfl) (by rfl) (enters_of Try.func30 (by kernel_rfl) rfl) ((sI.out _ g1.r2 g1.r3).mono ?_)
      rintro e v2 ⟨rfl, hb2⟩
      have g2 := g1.below hb2
      have s2 := g2.cells
      refine ⟨_, rfl, s2, ?_⟩
      simp only [List.getElem_toArray, List.getElem_cons_succ, List.getElem_cons_zero, Act.put, List.setIfInBounds_toArray, List.set_cons_succ, List.set_cons_zero, Nat.reduceAdd]
      refine wpAnyH_take (i := 13) (v := .bool false) rfl (by kernel_rfl) (by kernel_rfl) (by kernel_rfl) (fun _ _ _ h => h) (Or.inl ⟨by rfl, fun w' hS' => ?_⟩) s2 ?_
      · obtain ⟨q0, q1, q2, q3, q4, q5, q6, q7, q8, q9, q10, q11, q12, q13, q14, q15, q16, q17⟩ := hS'
        go_simp
      simp only [List.getElem_toArray, List.getElem_cons_succ, List.getElem_cons_zero, Act.put, List.setIfInBounds_toArray, List.set_cons_succ, List.set_cons_zero, Nat.reduceAdd]
      refine wpAnyH_take (i := 14) (v := .bool false) rfl (by kernel_rfl) (by kernel_rfl) (by kernel_rfl) (fun _ _ _ h => h) (Or.inl ⟨by rfl, fun w' hS' => by rfl⟩) s2 ?_
      simp only [List.getElem_toArray, List.getElem_cons_succ, List.getElem_cons_zero, Act.put, List.setIfInBounds_toArray, List.set_cons_succ, List.set_cons_zero, Nat.reduceAdd]
      refine wpAnyH_take (i := 15) (v := .bool false) rfl (by kernel_rfl) (by kernel_rfl) (by kernel_rfl) (fun _ _ _ h => h) (Or.inl ⟨by rfl, fun w' hS' => by rfl⟩) s2 ?_
      simp only [List.getElem_toArray, List.getElem_cons_succ, List.getElem_cons_zero, Act.put, List.setIfInBounds_toArray, List.set_cons_succ, List.set_cons_zero, Nat.reduceAdd]
      refine wpAnyH_take (i := 16) (v := .string pv) rfl (by kernel_rfl) (by kernel_rfl) (by kernel_rfl) (fun _ _ _ h => h) (Or.inl ⟨by rfl, fun w' hS' => by rfl⟩) s2 ?_
      simp only [List.getElem_toArray, List.getElem_cons_succ, List.getElem_cons_zero, Act.put, List.setIfInBounds_toArray, List.set_cons_succ, List.set_cons_zero, Nat.reduceAdd]
      refine wpAnyH_take (i := 17) (v := ev i nm) rfl (by kernel_rfl) (by kernel_rfl) (by kernel_rfl) (fun _ _ _ h => h) (Or.inl ⟨by rfl, fun w' hS' => ?_⟩) s2 ?_
      · obtain ⟨q0, q1, q2, q3, q4, q5, q6, q7, q8, q9, q10, q11, q12, q13, q14, q15, q16, q17⟩ := hS'
        go_simp
      simp only [List.getElem_toArray, List.getElem_cons_succ, List.getElem_cons_zero, Act.put, List.setIfInBounds_toArray, List.set_cons_succ, List.set_cons_zero, Nat.reduceAdd]
      refine Y0.one_callw (i := 18) (by kernel_rfl) rfl (by rfl) (.tmp 75) _ rfl (ev i nm) (by rfl) (enters_of Try.func31 (by kernel_rfl) rfl) ((sPE.out _).mono ?_)
      rintro e v3 ⟨rfl, hb3⟩
      have g3 := g2.below hb3
      have s3 := g3.cells
      refine ⟨_, rfl, s3, ?_⟩
      simp only [List.getElem_toArray, List.getElem_cons_succ, List.getElem_cons_zero, Act.put, List.setIfInBounds_toArray, List.set_cons_succ, List.set_cons_zero, Nat.reduceAdd]
      refine wpAnyH_take (i := 19) (v := .bool false) rfl (by kernel_rfl) (by kernel_rfl) (by kernel_rfl) (fun _ _ _ h => h) (Or.inl ⟨by rfl, fun w' hS' => ?_⟩) s3 ?_
      · obtain ⟨q0, q1, q2, q3, q4, q5, q6, q7, q8, q9, q10, q11, q12, q13, q14, q15, q16, q17⟩ := hS'
        go_simp
      simp only [List.getElem_toArray, List.getElem_cons_succ, List.getElem_cons_zero, Act.put, List.setIfInBounds_toArray, List.set_cons_succ, List.set_cons_zero, Nat.reduceAdd]
      refine wpAnyH_take (i := 20) (v := .bool false) rfl (by kernel_rfl) (by kernel_rfl) (by kernel_rfl) (fun _ _ _ h => h) (Or.inl ⟨by rfl, fun w' hS' => by rfl⟩) s3 ?_
      simp only [List.getElem_toArray, List.getElem_cons_succ, List.getElem_cons_zero, Act.put, List.setIfInBounds_toArray, List.set_cons_succ, List.set_cons_zero, Nat.reduceAdd]
      refine wpAnyH_take (i := 21) (v := .bool false) rfl (by kernel_rfl) (by kernel_rfl) (by kernel_rfl) (fun _ _ _ h => h) (Or.inl ⟨by rfl, fun w' hS' => by rfl⟩) s3 ?_
      simp only [List.getElem_toArray, List.getElem_cons_succ, List.getElem_cons_zero, Act.put, List.setIfInBounds_toArray, List.set_cons_succ, List.set_cons_zero, Nat.reduceAdd]
      refine wpAnyH_take (i := 22) (v := .bool false) rfl (by kernel_rfl) (by kernel_rfl) (by kernel_rfl) (fun _ _ _ h => h) (Or.inl ⟨by rfl, fun w' hS' => by rfl⟩) s3 ?_
      simp only [List.getElem_toArray, List.getElem_cons_succ, List.getElem_cons_zero, Act.put, List.setIfInBounds_toArray, List.set_cons_succ, List.set_cons_zero, Nat.reduceAdd]
      refine wpAnyH_take (i := 23) (v := .bool false) rfl (by kernel_rfl) (by kernel_rfl) (by kernel_rfl) (fun _ _ _ h => h) (Or.inl ⟨by rfl, fun w' hS' => by rfl⟩) s3 ?_
      simp only [List.getElem_toArray, List.getElem_cons_succ, List.getElem_cons_zero, Act.put, List.setIfInBounds_toArray, List.set_cons_succ, List.set_cons_zero, Nat.reduceAdd]
      refine wpAnyH_take (i := 24) (v := .bool false) rfl (by kernel_rfl) (by kernel_rfl) (by kernel_rfl) (fun _ _ _ h => h) (Or.inl ⟨by rfl, fun w' hS' => ?_⟩) s3 ?_
      · obtain ⟨q0, q1, q2, q3, q4, q5, q6, q7, q8, q9, q10, q11, q12, q13, q14, q15, q16, q17⟩ := hS'
        go_simp
      simp only [List.getElem_toArray, List.getElem_cons_succ, List.getElem_cons_zero, Act.put, List.setIfInBounds_toArray, List.set_cons_succ, List.set_cons_zero, Nat.reduceAdd]
      refine wpAnyH_take (i := 25) (v := .bool false) rfl (by kernel_rfl) (by kernel_rfl) (by kernel_rfl) (fun _ _ _ h => h) (Or.inl ⟨by rfl, fun w' hS' => by rfl⟩) s3 ?_
      simp only [List.getElem_toArray, List.getElem_cons_succ, List.getElem_cons_zero, Act.put, List.setIfInBounds_toArray, List.set_cons_succ, List.set_cons_zero, Nat.reduceAdd]
      refine wpAnyH_take (i := 26) (v := .bool false) rfl (by kernel_rfl) (by kernel_rfl) (by kernel_rfl) (fun _ _ _ h => h) (Or.inl ⟨by rfl, fun w' hS' => by rfl⟩) s3 ?_
      simp only [List.getElem_toArray, List.getElem_cons_succ, List.getElem_cons_zero, Act.put, List.setIfInBounds_toArray, List.set_cons_succ, List.set_cons_zero, Nat.reduceAdd]
      refine wpAnyH_take (i := 27) (v := ev I N) rfl (by kernel_rfl) (by kernel_rfl) (by kernel_rfl) (fun _ _ _ h => h) (Or.inl ⟨by rfl, fun w' hS' => ?_⟩) s3 ?_
      · obtain ⟨q0, q1, q2, q3, q4, q5, q6, q7, q8, q9, q10, q11, q12, q13, q14, q15, q16, q17⟩ := hS'
        go_simp
      simp only [List.getElem_toArray, List.getElem_cons_succ, List.getElem_cons_zero, Act.put, List.setIfInBounds_toArray, List.set_cons_succ, List.set_cons_zero, Nat.reduceAdd]
      refine wpAnyH_take (i := 28) (v := ev I N) rfl (by kernel_rfl) (by kernel_rfl) (by kernel_rfl) (fun _ _ _ h => h) (Or.inl ⟨by rfl, fun w' hS' => ?_⟩) s3 ?_
      · obtain ⟨q0, q1, q2, q3, q4, q5, q6, q7, q8, q9, q10, q11, q12, q13, q14, q15, q16, q17⟩ := hS'
        go_simp
      simp only [List.getElem_toArray, List.getElem_cons_succ, List.getElem_cons_zero, Act.put, List.setIfInBounds_toArray, List.set_cons_succ, List.set_cons_zero, Nat.reduceAdd]
      refine wpAnyH_take (i := 29) (v := .bool false) rfl (by kernel_rfl) (by kernel_rfl) (by kernel_rfl) (fun _ _ _ h => h) (Or.inl ⟨by rfl, fun w' hS' => ?_⟩) s3 ?_
      · obtain ⟨q0, q1, q2, q3, q4, q5, q6, q7, q8, q9, q10, q11, q12, q13, q14, q15, q16, q17⟩ := hS'
        go_simp
      simp only [List.getElem_toArray, List.getElem_cons_succ, List.getElem_cons_zero, Act.put, List.setIfInBounds_toArray, List.set_cons_succ, List.set_cons_zero, Nat.reduceAdd]
      refine wpAnyH_take (i := 30) (v := .bool false) rfl (by kernel_rfl) (by kernel_rfl) (by kernel_rfl) (fun _ _ _ h => h) (Or.inl ⟨by rfl, fun w' hS' => by rfl⟩) s3 ?_
      simp only [List.getElem_toArray, List.getElem_cons_succ, List.getElem_cons_zero, Act.put, List.setIfInBounds_toArray, List.set_cons_succ, List.set_cons_zero, Nat.reduceAdd]
      refine wpAnyH_take (i := 31) (v := .bool false) rfl (by kernel_rfl) (by kernel_rfl) (by kernel_rfl) (fun _ _ _ h => h) (Or.inl ⟨by rfl, fun w' hS' => by rfl⟩) s3 ?_
      simp only [List.getElem_toArray, List.getElem_cons_succ, List.getElem_cons_zero, Act.put, List.setIfInBounds_toArray, List.set_cons_succ, List.set_cons_zero, Nat.reduceAdd]
      refine wpAnyH_take (i := 32) (v := val k o s p zs.length cp) rfl (by kernel_rfl) (by kernel_rfl) (by kernel_rfl) (fun _ _ _ h => h) (Or.inl ⟨by rfl, fun w' hS' => ?_⟩) s3 ?_
      · obtain ⟨q0, q1, q2, q3, q4, q5, q6, q7, q8, q9, q10, q11, q12, q13, q14, q15, q16, q17⟩ := hS'
        go_simp
      simp only [List.getElem_toArray, List.getElem_cons_succ, List.getElem_cons_zero, Act.put, List.setIfInBounds_toArray, List.set_cons_succ, List.set_cons_zero, Nat.reduceAdd]
      refine wpAnyH_take (i := 34) (v := val k o s p zs.length cp) rfl (by kernel_rfl) (by kernel_rfl) (by kernel_rfl) (fun _ _ _ h => h) (Or.inl ⟨by rfl, fun w' hS' => ?_⟩) s3 ?_
      · obtain ⟨q0, q1, q2, q3, q4, q5, q6, q7, q8, q9, q10, q11, q12, q13, q14, q15, q16, q17⟩ := hS'
        go_simp
      simp only [List.getElem_toArray, List.getElem_cons_succ, List.getElem_cons_zero, Act.put, List.setIfInBounds_toArray, List.set_cons_succ, List.set_cons_zero, Nat.reduceAdd]
      refine Y0.one_callw (i := 33) (by kernel_rfl) rfl (by rfl) (.tmp 90) _ rfl (val k o s p zs.length cp) (by rfl) (enters_of Try.func32 (by kernel_rfl) rfl) ((iOk.out _ g3.r1).mono ?_)
      rintro e v4 ⟨rfl, hb4⟩
      have g4 := g3.below hb4
      have s4 := g4.cells
      refine ⟨_, rfl, s4, ?_⟩
      simp only [List.getElem_toArray, List.getElem_cons_succ, List.getElem_cons_zero, Act.put, List.setIfInBounds_toArray, List.set_cons_succ, List.set_cons_zero, Nat.reduceAdd]
      refine Y0.one_callw (i := 35) (by kernel_rfl) rfl (by rfl) (.tmp 92) _ rfl (val k o s p zs.length cp) (by rfl) (enters_of Try.func33 (by kernel_rfl) rfl) ((sOk.out _ g4.r1).mono ?_)
      rintro e v5 ⟨rfl, hb5⟩
      have g5 := g4.below hb5
      have s5 := g5.cells
      refine ⟨_, rfl, s5, ?_⟩
      simp only [List.getElem_toArray, List.getElem_cons_succ, List.getElem_cons_zero, Act.put, List.setIfInBounds_toArray, List.set_cons_succ, List.set_cons_zero, Nat.reduceAdd]
      refine wpAnyH_take (i := 36) (v := .bool false) rfl (by kernel_rfl) (by kernel_rfl) (by kernel_rfl) (fun _ _ _ h => h) (Or.inl ⟨by rfl, fun w' hS' => ?_⟩) s5 ?_
      · obtain ⟨q0, q1, q2, q3, q4, q5, q6, q7, q8, q9, q10, q11, q12, q13, q14, q15, q16, q17⟩ := hS'
        go_simp
      simp only [List.getElem_toArray, List.getElem_cons_succ, List.getElem_cons_zero, Act.put, List.setIfInBounds_toArray, List.set_cons_succ, List.set_cons_zero, Nat.reduceAdd]
      refine wpAnyH_take (i := 37) (v := .bool false) rfl (by kernel_rfl) (by kernel_rfl) (by kernel_rfl) (fun _ _ _ h => h) (Or.inl ⟨by rfl, fun w' hS' => by rfl⟩) s5 ?_
      simp only [List.getElem_toArray, List.getElem_cons_succ, List.getElem_cons_zero, Act.put, List.setIfInBounds_toArray, List.set_cons_succ, List.set_cons_zero, Nat.reduceAdd]
      refine wpAnyH_take (i := 38) (v := .bool false) rfl (by kernel_rfl) (by kernel_rfl) (by kernel_rfl) (fun _ _ _ h => h) (Or.inl ⟨by rfl, fun w' hS' => by rfl⟩) s5 ?_
      simp only [List.getElem_toArray, List.getElem_cons_succ, List.getElem_cons_zero, Act.put, List.setIfInBounds_toArray, List.set_cons_succ, List.set_cons_zero, Nat.reduceAdd]
      refine wpAnyH_take (i := 39) (v := ev i nm) rfl (by kernel_rfl) (by kernel_rfl) (by kernel_rfl) (fun _ _ _ h => h) (Or.inl ⟨by rfl, fun w' hS' => ?_⟩) s5 ?_
      · obtain ⟨q0, q1, q2, q3, q4, q5, q6, q7, q8, q9, q10, q11, q12, q13, q14, q15, q16, q17⟩ := hS'
        go_simp
      simp only [List.getElem_toArray, List.getElem_cons_succ, List.getElem_cons_zero, Act.put, List.setIfInBounds_toArray, List.set_cons_succ, List.set_cons_zero, Nat.reduceAdd]
      refine wpAnyH_take (i := 41) (v := ev i nm) rfl (by kernel_rfl) (by kernel_rfl) (by kernel_rfl) (fun _ _ _ h => h) (Or.inl ⟨by rfl, fun w' hS' => ?_⟩) s5 ?_
      · obtain ⟨q0, q1, q2, q3, q4, q5, q6, q7, q8, q9, q10, q11, q12, q13, q14, q15, q16, q17⟩ := hS'
        go_simp
      simp only [List.getElem_toArray, List.getElem_cons_succ, List.getElem_cons_zero, Act.put, List.setIfInBounds_toArray, List.set_cons_succ, List.set_cons_zero, Nat.reduceAdd]
      refine Y0.one_callw (i := 40) (by kernel_rfl) rfl (by rfl) (.tmp 97) _ rfl (ev i nm) (by rfl) (enters_of Try.func34 (by kernel_rfl) rfl) ((iEO.out _).mono ?_)
      rintro e v6 ⟨rfl, hb6⟩
      have g6 := g5.below hb6
      have s6 := g6.cells
      refine ⟨_, rfl, s6, ?_⟩
      simp only [List.getElem_toArray, List.getElem_cons_succ, List.getElem_cons_zero, Act.put, List.setIfInBounds_toArray, List.set_cons_succ, List.set_cons_zero, Nat.reduceAdd]
      refine Y0.one_callw (i := 42) (by kernel_rfl) rfl (by rfl) (.tmp 99) _ rfl (ev i nm) (by rfl) (enters_of Try.func35 (by kernel_rfl) rfl) ((sEO.out _).mono ?_)
      rintro e v7 ⟨rfl, hb7⟩
      have g7 := g6.below hb7
      have s7 := g7.cells
      refine ⟨_, rfl, s7, ?_⟩
      simp only [List.getElem_toArray, List.getElem_cons_succ, List.getElem_cons_zero, Act.put, List.setIfInBounds_toArray, List.set_cons_succ, List.set_cons_zero, Nat.reduceAdd]
      refine wpAnyH_take (i := 43) (v := .bool false) rfl (by kernel_rfl) (by kernel_rfl) (by kernel_rfl) (fun _ _ _ h => h) (Or.inl ⟨by rfl, fun w' hS' => ?_⟩) s7 ?_
      · obtain ⟨q0, q1, q2, q3, q4, q5, q6, q7, q8, q9, q10, q11, q12, q13, q14, q15, q16, q17⟩ := hS'
        go_simp
      simp only [List.getElem_toArray, List.getElem_cons_succ, List.getElem_cons_zero, Act.put, List.setIfInBounds_toArray, List.set_cons_succ, List.set_cons_zero, Nat.reduceAdd]
      refine wpAnyH_take (i := 44) (v := .bool false) rfl (by kernel_rfl) (by kernel_rfl) (by kernel_rfl) (fun _ _ _ h => h) (Or.inl ⟨by rfl, fun w' hS' => by rfl⟩) s7 ?_
      simp only [List.getElem_toArray, List.getElem_cons_succ, List.getElem_cons_zero, Act.put, List.setIfInBounds_toArray, List.set_cons_succ, List.set_cons_zero, Nat.reduceAdd]
      refine wpAnyH_take (i := 45) (v := .bool false) rfl (by kernel_rfl) (by kernel_rfl) (by kernel_rfl) (fun _ _ _ h => h) (Or.inl ⟨by rfl, fun w' hS' => by rfl⟩) s7 ?_
      simp only [List.getElem_toArray, List.getElem_cons_succ, List.getElem_cons_zero, Act.put, List.setIfInBounds_toArray, List.set_cons_succ, List.set_cons_zero, Nat.reduceAdd]
      refine wpAnyH_take (i := 46) (v := .int .i64 ri) rfl (by kernel_rfl) (by kernel_rfl) (by kernel_rfl) (fun _ _ _ h => h) (Or.inl ⟨by rfl, fun w' hS' => by rfl⟩) s7 ?_
      simp only [List.getElem_toArray, List.getElem_cons_succ, List.getElem_cons_zero, Act.put, List.setIfInBounds_toArray, List.set_cons_succ, List.set_cons_zero, Nat.reduceAdd]
      refine wpAnyH_take (i := 48) (v := .int .i64 ri) rfl (by kernel_rfl) (by kernel_rfl) (by kernel_rfl) (fun _ _ _ h => h) (Or.inl ⟨by rfl, fun w' hS' => by rfl⟩) s7 ?_
      simp only [List.getElem_toArray, List.getElem_cons_succ, List.getElem_cons_zero, Act.put, List.setIfInBounds_toArray, List.set_cons_succ, List.set_cons_zero, Nat.reduceAdd]
      refine Y0.one_callw (i := 47) (by kernel_rfl) rfl (by rfl) (.tmp 104) _ rfl (.int .i64 ri) (by rfl) (enters_of Try.func36 (by kernel_rfl) rfl) ((L1.impl_RecAt ri _).mono ?_)
      rintro e vq ⟨rfl, rfl⟩
      refine ⟨_, rfl, s7, ?_⟩
      simp only [List.getElem_toArray, List.getElem_cons_succ, List.getElem_cons_zero, Act.put, List.setIfInBounds_toArray, List.set_cons_succ, List.set_cons_zero, Nat.reduceAdd]
      refine Y0.one_callw (i := 49) (by kernel_rfl) rfl (by rfl) (.tmp 106) _ rfl (.int .i64 ri) (by rfl) (enters_of Try.func37 (by kernel_rfl) rfl) ((L1.spec_RecAt ri _).mono ?_)
      rintro e vq ⟨rfl, rfl⟩
      refine ⟨_, rfl, s7, ?_⟩
      simp only [List.getElem_toArray, List.getElem_cons_succ, List.getElem_cons_zero, Act.put, List.setIfInBounds_toArray, List.set_cons_succ, List.set_cons_zero, Nat.reduceAdd]
      refine wpAnyH_take (i := 50) (v := .bool false) rfl (by kernel_rfl) (by kernel_rfl) (by kernel_rfl) (fun _ _ _ h => h) (Or.inl ⟨by rfl, fun w' hS' => ?_⟩) s7 ?_
      · obtain ⟨q0, q1, q2, q3, q4, q5, q6, q7, q8, q9, q10, q11, q12, q13, q14, q15, q16, q17⟩ := hS'
        go_simp
      simp only [List.getElem_toArray, List.getElem_cons_succ, List.getElem_cons_zero, Act.put, List.setIfInBounds_toArray, List.set_cons_succ, List.set_cons_zero, Nat.reduceAdd]
      refine wpAnyH_take (i := 51) (v := .bool false) rfl (by kernel_rfl) (by kernel_rfl) (by kernel_rfl) (fun _ _ _ h => h) (Or.inl ⟨by rfl, fun w' hS' => by rfl⟩) s7 ?_
      simp only [List.getElem_toArray, List.getElem_cons_succ, List.getElem_cons_zero, Act.put, List.setIfInBounds_toArray, List.set_cons_succ, List.set_cons_zero, Nat.reduceAdd]
      refine wpAnyH_take (i := 52) (v := .bool false) rfl (by kernel_rfl) (by kernel_rfl) (by kernel_rfl) (fun _ _ _ h => h) (Or.inl ⟨by rfl, fun w' hS' => by rfl⟩) s7 ?_
      simp only [List.getElem_toArray, List.getElem_cons_succ, List.getElem_cons_zero, Act.put, List.setIfInBounds_toArray, List.set_cons_succ, List.set_cons_zero, Nat.reduceAdd]
      refine wpAnyH_take (i := 53) (v := .bool true) rfl (by kernel_rfl) (by kernel_rfl) (by kernel_rfl) (fun _ _ _ h => h) (Or.inl ⟨by rfl, fun w' hS' => by rfl⟩) s7 ?_
      simp only [List.getElem_toArray, List.getElem_cons_succ, List.getElem_cons_zero, Act.put, List.setIfInBounds_toArray, List.set_cons_succ, List.set_cons_zero, Nat.reduceAdd]
      refine wpAnyH_take (i := 54) (v := .bool true) rfl (by kernel_rfl) (by kernel_rfl) (by kernel_rfl) (fun _ _ _ h => h) (Or.inl ⟨by rfl, fun w' hS' => by rfl⟩) s7 ?_
      simp only [List.getElem_toArray, List.getElem_cons_succ, List.getElem_cons_zero, Act.put, List.setIfInBounds_toArray, List.set_cons_succ, List.set_cons_zero, Nat.reduceAdd]
      refine wpAnyH_take (i := 55) (v := val K O S ax Z.length cx) rfl (by kernel_rfl) (by kernel_rfl) (by kernel_rfl) (fun _ _ _ h => h) (Or.inl ⟨by rfl, fun w' hS' => ?_⟩) s7 ?_
      · obtain ⟨q0, q1, q2, q3, q4, q5, q6, q7, q8, q9, q10, q11, q12, q13, q14, q15, q16, q17⟩ := hS'
        go_simp
      simp only [List.getElem_toArray, List.getElem_cons_succ, List.getElem_cons_zero, Act.put, List.setIfInBounds_toArray, List.set_cons_succ, List.set_cons_zero, Nat.reduceAdd]
      refine wpAnyH_take (i := 57) (v := .string u) rfl (by kernel_rfl) (by kernel_rfl) (by kernel_rfl) (fun _ _ _ h => h) (Or.inl ⟨by rfl, fun w' hS' => by rfl⟩) s7 ?_
      simp only [List.getElem_toArray, List.getElem_cons_succ, List.getElem_cons_zero, Act.put, List.setIfInBounds_toArray, List.set_cons_succ, List.set_cons_zero, Nat.reduceAdd]
      refine Y0.one_callw (i := 56) (by kernel_rfl) rfl (by rfl) (.tmp 113) _ rfl (val K O S ax Z.length cx) (by rfl) (enters_of Try.func19 (by kernel_rfl) rfl) ((iPI.out (by trivial) _ g7.r2).mono ?_)
      rintro e v8 ⟨rfl, hb8⟩
      have g8 := g7.below hb8
      have s8 := g8.cells
      refine ⟨_, rfl, s8, ?_⟩
      simp only [List.getElem_toArray, List.getElem_cons_succ, List.getElem_cons_zero, Act.put, List.setIfInBounds_toArray, List.set_cons_succ, List.set_cons_zero, Nat.reduceAdd]
      refine wpAnyH_take (i := 58) (v := .bool false) rfl (by kernel_rfl) (by kernel_rfl) (by kernel_rfl) (fun _ _ _ h => h) (Or.inl ⟨by rfl, fun w' hS' => ?_⟩) s8 ?_
      · obtain ⟨q0, q1, q2, q3, q4, q5, q6, q7, q8, q9, q10, q11, q12, q13, q14, q15, q16, q17⟩ := hS'
        go_simp
      simp only [List.getElem_toArray, List.getElem_cons_succ, List.getElem_cons_zero, Act.put, List.setIfInBounds_toArray, List.set_cons_succ, List.set_cons_zero, Nat.reduceAdd]
      refine wpAnyH_take (i := 59) (v := .bool false) rfl (by kernel_rfl) (by kernel_rfl) (by kernel_rfl) (fun _ _ _ h => h) (Or.inl ⟨by rfl, fun w' hS' => by rfl⟩) s8 ?_
      simp only [List.getElem_toArray, List.getElem_cons_succ, List.getElem_cons_zero, Act.put, List.setIfInBounds_toArray, List.set_cons_succ, List.set_cons_zero, Nat.reduceAdd]
      refine wpAnyH_take (i := 60) (v := .bool false) rfl (by kernel_rfl) (by kernel_rfl) (by kernel_rfl) (fun _ _ _ h => h) (Or.inl ⟨by rfl, fun w' hS' => by rfl⟩) s8 ?_
      simp only [List.getElem_toArray, List.getElem_cons_succ, List.getElem_cons_zero, Act.put, List.setIfInBounds_toArray, List.set_cons_succ, List.set_cons_zero, Nat.reduceAdd]
      refine wpAnyH_take (i := 61) (v := .bool false) rfl (by kernel_rfl) (by kernel_rfl) (by kernel_rfl) (fun _ _ _ h => h) (Or.inl ⟨by rfl, fun w' hS' => by rfl⟩) s8 ?_
      simp only [List.getElem_toArray, List.getElem_cons_succ, List.getElem_cons_zero, Act.put, List.setIfInBounds_toArray, List.set_cons_succ, List.set_cons_zero, Nat.reduceAdd]
      refine wpAnyH_take (i := 62) (v := .bool false) rfl (by kernel_rfl) (by kernel_rfl) (by kernel_rfl) (fun _ _ _ h => h) (Or.inl ⟨by rfl, fun w' hS' => by rfl⟩) s8 ?_
      simp only [List.getElem_toArray, List.getElem_cons_succ, List.getElem_cons_zero, Act.put, List.setIfInBounds_toArray, List.set_cons_succ, List.set_cons_zero, Nat.reduceAdd]
      refine wpAnyH_take (i := 63) (v := .bool false) rfl (by kernel_rfl) (by kernel_rfl) (by kernel_rfl) (fun _ _ _ h => h) (Or.inl ⟨by rfl, fun w' hS' => by rfl⟩) s8 ?_
      simp only [List.getElem_toArray, List.getElem_cons_succ, List.getElem_cons_zero, Act.put, List.setIfInBounds_toArray, List.set_cons_succ, List.set_cons_zero, Nat.reduceAdd]
      refine wpAnyH_take (i := 64) (v := undef) rfl (by kernel_rfl) (by kernel_rfl) (by kernel_rfl) (fun _ _ _ h => h) (Or.inr ⟨by rfl, rfl⟩) s8 ?_
      simp only [List.getElem_toArray, List.getElem_cons_succ, List.getElem_cons_zero, Act.put, List.setIfInBounds_toArray, List.set_cons_succ, List.set_cons_zero, Nat.reduceAdd]
      refine wpAnyH_take (i := 65) (v := undef) rfl (by kernel_rfl) (by kernel_rfl) (by kernel_rfl) (fun _ _ _ h => h) (Or.inr ⟨by rfl, rfl⟩) s8 ?_
      simp only [List.getElem_toArray, List.getElem_cons_succ, List.getElem_cons_zero, Act.put, List.setIfInBounds_toArray, List.set_cons_succ, List.set_cons_zero, Nat.reduceAdd]
      refine wpAnyH_take (i := 66) (v := undef) rfl (by kernel_rfl) (by kernel_rfl) (by kernel_rfl) (fun _ _ _ h => h) (Or.inr ⟨by rfl, rfl⟩) s8 ?_
      simp only [List.getElem_toArray, List.getElem_cons_succ, List.getElem_cons_zero, Act.put, List.setIfInBounds_toArray, List.set_cons_succ, List.set_cons_zero, Nat.reduceAdd]
      refine wpAnyH_take (i := 67) (v := undef) rfl (by kernel_rfl) (by kernel_rfl) (by kernel_rfl) (fun _ _ _ h => h) (Or.inr ⟨by rfl, rfl⟩) s8 ?_
      simp only [List.getElem_toArray, List.getElem_cons_succ, List.getElem_cons_zero, Act.put, List.setIfInBounds_toArray, List.set_cons_succ, List.set_cons_zero, Nat.reduceAdd]
      refine wpAnyH_take (i := 68) (v := .bool false) rfl (by kernel_rfl) (by kernel_rfl) (by kernel_rfl) (fun _ _ _ h => h) (Or.inl ⟨by rfl, fun w' hS' => by rfl⟩) s8 ?_
      simp only [List.getElem_toArray, List.getElem_cons_succ, List.getElem_cons_zero, Act.put, List.setIfInBounds_toArray, List.set_cons_succ, List.set_cons_zero, Nat.reduceAdd]
      refine wpAnyH_take (i := 69) (v := .bool false) rfl (by kernel_rfl) (by kernel_rfl) (by kernel_rfl) (fun _ _ _ h => h) (Or.inl ⟨by rfl, fun w' hS' => by rfl⟩) s8 ?_
      simp only [List.getElem_toArray, List.getElem_cons_succ, List.getElem_cons_zero, Act.put, List.setIfInBounds_toArray, List.set_cons_succ, List.set_cons_zero, Nat.reduceAdd]
      refine wpAnyH_done (by kernel_rfl) ?_ _
      have g := g8
      clear s1 g1 hb1 s2 g2 hb2 s3 g3 hb3 s4 g4 hb4 s5 g5 hb5 s6 g6 hb6 s7 g7 hb7 s8 g8 hb8
      clear sPI sI sPE iOk sOk iEO iPI iPE
      have s0 := g.k4.c0
      have s1 := g.k4.c1
      by_cases hse : sv.toList = []
      · have hse' : (sv.toList != []) = false := by rw [hse]; rfl
        have hse1 : (sv.toList == []) = true := by rw [hse]; rfl
        by_cases hpe : pv.toList = []
        · have hpe' : (pv.toList == []) = true := by rw [hpe]; rfl
          have hb2 := hnil hpe
          subst hb2
          clear iGI iGE hsv16 hpv16 hnil sI2 hse hpe
          go_wp2_with (first
            | (go_at_call 30; refine (sI2.out _ _ _ x5 g.r1).mono ?_; rintro e v2 ⟨rfl, hb⟩; have g := g.below hb; have s0 := g.k4.c0; have s1 := g.k4.c1)
            | (go_at_call 35; refine (sEO.out _).mono ?_; rintro e v7 ⟨rfl, hb⟩; have g := g.below hb)
            | (go_at_call 21; refine (iGI' _).mono ?_; rintro e va ⟨a5, c5, rfl, x5, hb⟩; have nb := K0.below_new va (.cells #[.int .i64 k, .int .i64 o, .int .i64 s, .slice a5 zs.length c5] 26); have x5 := x5.below nb; have g := (g.below hb).below nb; have p0 := g.k1.c0; have p1 := g.k1.c1; have p2 := g.k1.c2; have p3 := g.k1.c3)
            | (go_at_call 26; refine (iGE' _).mono ?_; rintro e vb ⟨rfl, hb⟩; have nb := K0.below_new vb (.cells #[.int .i64 i, .string nm] 33); have g := (g.below hb).below nb; have s0 := g.k4.c0; have s1 := g.k4.c1))
          go_ret
          exact ⟨rfl, g.bel⟩
        · have hpe' : (pv.toList == []) = false := by simpa using hpe
          have h16 := hpv16 hpe
          have iGE' := iGE.out hpe
          clear iGI iGE hsv16 hpv16 hnil sI2 hse hpe
          go_wp2_with (first
            | (go_at_call 30; refine (sI2.out _ _ _ x5 g.r1).mono ?_; rintro e v2 ⟨rfl, hb⟩; have g := g.below hb; have s0 := g.k4.c0; have s1 := g.k4.c1)
            | (go_at_call 35; refine (sEO.out _).mono ?_; rintro e v7 ⟨rfl, hb⟩; have g := g.below hb)
            | (go_at_call 21; refine (iGI' _).mono ?_; rintro e va ⟨a5, c5, rfl, x5, hb⟩; have nb := K0.below_new va (.cells #[.int .i64 k, .int .i64 o, .int .i64 s, .slice a5 zs.length c5] 26); have x5 := x5.below nb; have g := (g.below hb).below nb; have p0 := g.k1.c0; have p1 := g.k1.c1; have p2 := g.k1.c2; have p3 := g.k1.c3)
            | (go_at_call 26; refine (iGE' _).mono ?_; rintro e vb ⟨rfl, hb⟩; have nb := K0.below_new vb (.cells #[.int .i64 i, .string nm] 33); have g := (g.below hb).below nb; have s0 := g.k4.c0; have s1 := g.k4.c1))
          go_ret
          exact ⟨rfl, g.bel⟩
      · have hse' : (sv.toList != []) = true := by simpa using hse
        have hse1 : (sv.toList == []) = false := by simpa using hse
        have h15 := hsv16 hse
        have iGI' := iGI.out hse
        by_cases hpe : pv.toList = []
        · have hpe' : (pv.toList == []) = true := by rw [hpe]; rfl
          have hb2 := hnil hpe
          subst hb2
          clear iGI iGE hsv16 hpv16 hnil hse hpe
          go_wp2_with (first
            | (go_at_call 30; refine (sI2.out _ _ _ x5 g.r1).mono ?_; rintro e v2 ⟨rfl, hb⟩; have g := g.below hb; have s0 := g.k4.c0; have s1 := g.k4.c1)
            | (go_at_call 35; refine (sEO.out _).mono ?_; rintro e v7 ⟨rfl, hb⟩; have g := g.below hb)
            | (go_at_call 21; refine (iGI' _).mono ?_; rintro e va ⟨a5, c5, rfl, x5, hb⟩; have nb := K0.below_new va (.cells #[.int .i64 k, .int .i64 o, .int .i64 s, .slice a5 zs.length c5] 26); have x5 := x5.below nb; have g := (g.below hb).below nb; have p0 := g.k1.c0; have p1 := g.k1.c1; have p2 := g.k1.c2; have p3 := g.k1.c3)
            | (go_at_call 26; refine (iGE' _).mono ?_; rintro e vb ⟨rfl, hb⟩; have nb := K0.below_new vb (.cells #[.int .i64 i, .string nm] 33); have g := (g.below hb).below nb; have s0 := g.k4.c0; have s1 := g.k4.c1))
          go_ret
          exact ⟨rfl, g.bel⟩
        · have hpe' : (pv.toList == []) = false := by simpa using hpe
          have h16 := hpv16 hpe
          have iGE' := iGE.out hpe
          clear iGI iGE hsv16 hpv16 hnil hse hpe
          go_wp2_with (first
            | (go_at_call 30; refine (sI2.out _ _ _ x5 g.r1).mono ?_; rintro e v2 ⟨rfl, hb⟩; have g := g.below hb; have s0 := g.k4.c0; have s1 := g.k4.c1)
            | (go_at_call 35; refine (sEO.out _).mono ?_; rintro e v7 ⟨rfl, hb⟩; have g := g.below hb)
            | (go_at_call 21; refine (iGI' _).mono ?_; rintro e va ⟨a5, c5, rfl, x5, hb⟩; have nb := K0.below_new va (.cells #[.int .i64 k, .int .i64 o, .int .i64 s, .slice a5 zs.length c5] 26); have x5 := x5.below nb; have g := (g.below hb).below nb; have p0 := g.k1.c0; have p1 := g.k1.c1; have p2 := g.k1.c2; have p3 := g.k1.c3)
            | (go_at_call 26; refine (iGE' _).mono ?_; rintro e vb ⟨rfl, hb⟩; have nb := K0.below_new vb (.cells #[.int .i64 i, .string nm] 33); have g := (g.below hb).below nb; have s0 := g.k4.c0; have s1 := g.k4.c1))
          go_ret
          exact ⟨rfl, g.bel⟩

    · skip
      refine wp_region_held (S := fun W => W.cell? ⟨B1, 0, none⟩ = some (.int .i64 k) ∧ W.cell? ⟨B1, 1, none⟩ = some (.int .i64 o) ∧ W.cell? ⟨B1, 2, none⟩ = some (.int .i64 s) ∧ W.cell? ⟨B1, 3, none⟩ = some (.slice p zs.length cp) ∧ W.cell? ⟨B2, 0, none⟩ = some (.int .i64 K) ∧ W.cell? ⟨B2, 1, none⟩ = some (.int .i64 O) ∧ W.cell? ⟨B2, 2, none⟩ = some (.int .i64 S) ∧ W.cell? ⟨B2, 3, none⟩ = some (.slice ax Z.length cx) ∧ W.cell? ⟨B3, 0, none⟩ = some (.int .i64 K) ∧ W.cell? ⟨B3, 1, none⟩ = some (.int .i64 O) ∧ W.cell? ⟨B3, 2, none⟩ = some (.int .i64 S) ∧ W.cell? ⟨B3, 3, none⟩ = some (.slice ay Z.length cy) ∧ W.cell? ⟨B4, 0, none⟩ = some (.int .i64 i) ∧ W.cell? ⟨B4, 1, none⟩ = some (.string nm) ∧ W.cell? ⟨B5, 0, none⟩ = some (.int .i64 I) ∧ W.cell? ⟨B5, 1, none⟩ = some (.string N) ∧ W.cell? ⟨B6, 0, none⟩ = some (.int .i64 I) ∧ W.cell? ⟨B6, 1, none⟩ = some (.string N)) (by kernel_rfl) ?_
      refine wpAnyH_take (i := 0) (v := .string sv) rfl (by kernel_rfl) (by kernel_rfl) (by kernel_rfl) (fun _ _ _ h => h) (Or.inl ⟨by rfl, fun w' hS' => by rfl⟩) s0 ?_
      simp only [List.getElem_toArray, List.getElem_cons_succ, List.getElem_cons_zero, Act.put, List.setIfInBounds_toArray, List.set_cons_succ, List.set_cons_zero, Nat.reduceAdd]
      refine wpAnyH_take (i := 1) (v := val k o s p zs.length cp) rfl (by kernel_rfl) (by kernel_rfl) (by kernel_rfl) (fun _ _ _ h => h) (Or.inl ⟨by rfl, fun w' hS' => ?_⟩) s0 ?_
      · obtain ⟨q0, q1, q2, q3, q4, q5, q6, q7, q8, q9, q10, q11, q12, q13, q14, q15, q16, q17⟩ := hS'
        go_simp
      simp only [List.getElem_toArray, List.getElem_cons_succ, List.getElem_cons_zero, Act.put, List.setIfInBounds_toArray, List.set_cons_succ, List.set_cons_zero, Nat.reduceAdd]
      refine Y0.one_callw (i := 2) (by kernel_rfl) rfl (by rfl) (.tmp 59) _ rfl (val k o s p zs.length cp) (by rfl) (enters_of Try.func29 (by kernel_rfl) rfl) ((sPI.out _ g.r1).mono ?_)
      rintro e v1 ⟨rfl, hb1⟩
      have g1 := g.below hb1
      have s1 := g1.cells
      refine ⟨_, rfl, s1, ?_⟩
      simp only [List.getElem_toArray, List.getElem_cons_succ, List.getElem_cons_zero, Act.put, List.setIfInBounds_toArray, List.set_cons_succ, List.set_cons_zero, Nat.reduceAdd]
      refine wpAnyH_take (i := 3) (v := .bool false) rfl (by kernel_rfl) (by kernel_rfl) (by kernel_rfl) (fun _ _ _ h => h) (Or.inl ⟨by rfl, fun w' hS' => ?_⟩) s1 ?_
      · obtain ⟨q0, q1, q2, q3, q4, q5, q6, q7, q8, q9, q10, q11, q12, q13, q14, q15, q16, q17⟩ := hS'
        go_simp
      simp only [List.getElem_toArray, List.getElem_cons_succ, List.getElem_cons_zero, Act.put, List.setIfInBounds_toArray, List.set_cons_succ, List.set_cons_zero, Nat.reduceAdd]
      refine wpAnyH_take (i := 4) (v := .bool false) rfl (by kernel_rfl) (by kernel_rfl) (by kernel_rfl) (fun _ _ _ h => h) (Or.inl ⟨by rfl, fun w' hS' => by rfl⟩) s1 ?_
      simp only [List.getElem_toArray, List.getElem_cons_succ, List.getElem_cons_zero, Act.put, List.setIfInBounds_toArray, List.set_cons_succ, List.set_cons_zero, Nat.reduceAdd]
      refine wpAnyH_take (i := 5) (v := .bool true) rfl (by kernel_rfl) (by kernel_rfl) (by kernel_rfl) (fun _ _ _ h => h) (Or.inl ⟨by rfl, fun w' hS' => by rfl⟩) s1 ?_
      simp only [List.getElem_toArray, List.getElem_cons_succ, List.getElem_cons_zero, Act.put, List.setIfInBounds_toArray, List.set_cons_succ, List.set_cons_zero, Nat.reduceAdd]
      refine wpAnyH_take (i := 6) (v := .bool true) rfl (by kernel_rfl) (by kernel_rfl) (by kernel_rfl) (fun _ _ _ h => h) (Or.inl ⟨by rfl, fun w' hS' => by rfl⟩) s1 ?_
      simp only [List.getElem_toArray, List.getElem_cons_succ, List.getElem_cons_zero, Act.put, List.setIfInBounds_toArray, List.set_cons_succ, List.set_cons_zero, Nat.reduceAdd]
      refine wpAnyH_take (i := 7) (v := .bool false) rfl (by kernel_rfl) (by kernel_rfl) (by kernel_rfl) (fun _ _ _ h => h) (Or.inl ⟨by rfl, fun w' hS' => ?_⟩) s1 ?_
      · obtain ⟨q0, q1, q2, q3, q4, q5, q6, q7, q8, q9, q10, q11, q12, q13, q14, q15, q16, q17⟩ := hS'
        go_simp
      simp only [List.getElem_toArray, List.getElem_cons_succ, List.getElem_cons_zero, Act.put, List.setIfInBounds_toArray, List.set_cons_succ, List.set_cons_zero, Nat.reduceAdd]
      refine wpAnyH_take (i := 8) (v := .bool false) rfl (by kernel_rfl) (by kernel_rfl) (by kernel_rfl) (fun _ _ _ h => h) (Or.inl ⟨by rfl, fun w' hS' => by rfl⟩) s1 ?_
      simp only [List.getElem_toArray, List.getElem_cons_succ, List.getElem_cons_zero, Act.put, List.setIfInBounds_toArray, List.set_cons_succ, List.set_cons_zero, Nat.reduceAdd]
      refine wpAnyH_take (i := 9) (v := .bool false) rfl (by kernel_rfl) (by kernel_rfl) (by kernel_rfl) (fun _ _ _ h => h) (Or.inl ⟨by rfl, fun w' hS' => by rfl⟩) s1 ?_
      simp only [List.getElem_toArray, List.getElem_cons_succ, List.getElem_cons_zero, Act.put, List.setIfInBounds_toArray, List.set_cons_succ, List.set_cons_zero, Nat.reduceAdd]
      refine wpAnyH_take (i := 10) (v := val K O S ax Z.length cx) rfl (by kernel_rfl) (by kernel_rfl) (by kernel_rfl) (fun _ _ _ h => h) (Or.inl ⟨by rfl, fun w' hS' => ?_⟩) s1 ?_
      · obtain ⟨q0, q1, q2, q3, q4, q5, q6, q7, q8, q9, q10, q11, q12, q13, q14, q15, q16, q17⟩ := hS'
        go_simp
      simp only [List.getElem_toArray, List.getElem_cons_succ, List.getElem_cons_zero, Act.put, List.setIfInBounds_toArray, List.set_cons_succ, List.set_cons_zero, Nat.reduceAdd]
      refine wpAnyH_take (i := 11) (v := val K O S ay Z.length cy) rfl (by kernel_rfl) (by kernel_rfl) (by kernel_rfl) (fun _ _ _ h => h) (Or.inl ⟨by rfl, fun w' hS' => ?_⟩) s1 ?_
      · obtain ⟨q0, q1, q2, q3, q4, q5, q6, q7, q8, q9, q10, q11, q12, q13, q14, q15, q16, q17⟩ := hS'
        go_simp
      simp only [List.getElem_toArray, List.getElem_cons_succ, List.getElem_cons_zero, Act.put, List.setIfInBounds_toArray, List.set_cons_succ, List.set_cons_zero, Nat.reduceAdd]
      refine Y0.one_call2w (i := 12) (by kernel_rfl) rfl (by rfl) (.tmp 68) (.tmp 69) _ rfl (val K O S ax Z.length cx) (val K O S ay Z.length cy) (by rfl) (by rfl) (enters_of Try.func30 (by kernel_rfl) rfl) ((sI.out _ g1.r2 g1.r3).mono ?_)
      rintro e v2 ⟨rfl, hb2⟩
      have g2 := g1.below hb2
      have s2 := g2.cells
      refine ⟨_, rfl, s2, ?_⟩
      simp only [List.getElem_toArray, List.getElem_cons_succ, List.getElem_cons_zero, Act.put, List.setIfInBounds_toArray, List.set_cons_succ, List.set_cons_zero, Nat.reduceAdd]
      refine wpAnyH_take (i := 13) (v := .bool false) rfl (by kernel_rfl) (by kernel_rfl) (by kernel_rfl) (fun _ _ _ h => h) (Or.inl ⟨by rfl, fun w' hS' => ?_⟩) s2 ?_
      · obtain ⟨q0, q1, q2, q3, q4, q5, q6, q7, q8, q9, q10, q11, q12, q13, q14, q15, q16, q17⟩ := hS'
        go_simp
      simp only [List.getElem_toArray, List.getElem_cons_succ, List.getElem_cons_zero, Act.put, List.setIfInBounds_toArray, List.set_cons_succ, List.set_cons_zero, Nat.reduceAdd]
      refine wpAnyH_take (i := 14) (v := .bool false) rfl (by kernel_rfl) (by kernel_rfl) (by kernel_rfl) (fun _ _ _ h => h) (Or.inl ⟨by rfl, fun w' hS' => by rfl⟩) s2 ?_
      simp only [List.getElem_toArray, List.getElem_cons_succ, List.getElem_cons_zero, Act.put, List.setIfInBounds_toArray, List.set_cons_succ, List.set_cons_zero, Nat.reduceAdd]
      refine wpAnyH_take (i := 15) (v := .bool false) rfl (by kernel_rfl) (by kernel_rfl) (by kernel_rfl) (fun _ _ _ h => h) (Or.inl ⟨by rfl, fun w' hS' => by rfl⟩) s2 ?_
      simp only [List.getElem_toArray, List.getElem_cons_succ, List.getElem_cons_zero, Act.put, List.setIfInBounds_toArray, List.set_cons_succ, List.set_cons_zero, Nat.reduceAdd]
      refine wpAnyH_take (i := 16) (v := .string pv) rfl (by kernel_rfl) (by kernel_rfl) (by kernel_rfl) (fun _ _ _ h => h) (Or.inl ⟨by rfl, fun w' hS' => by rfl⟩) s2 ?_
      simp only [List.getElem_toArray, List.getElem_cons_succ, List.getElem_cons_zero, Act.put, List.setIfInBounds_toArray, List.set_cons_succ, List.set_cons_zero, Nat.reduceAdd]
      refine wpAnyH_take (i := 17) (v := ev i nm) rfl (by kernel_rfl) (by kernel_rfl) (by kernel_rfl) (fun _ _ _ h => h) (Or.inl ⟨by rfl, fun w' hS' => ?_⟩) s2 ?_
      · obtain ⟨q0, q1, q2, q3, q4, q5, q6, q7, q8, q9, q10, q11, q12, q13, q14, q15, q16, q17⟩ := hS'
        go_simp
      simp only [List.getElem_toArray, List.getElem_cons_succ, List.getElem_cons_zero, Act.put, List.setIfInBounds_toArray, List.set_cons_succ, List.set_cons_zero, Nat.reduceAdd]
      refine Y0.one_callw (i := 18) (by kernel_rfl) rfl (by rfl) (.tmp 75) _ rfl (ev i nm) (by rfl) (enters_of Try.func31 (by kernel_rfl) rfl) ((sPE.out _).mono ?_)
      rintro e v3 ⟨rfl, hb3⟩
      have g3 := g2.below hb3
      have s3 := g3.cells
      refine ⟨_, rfl, s3, ?_⟩
      simp only [List.getElem_toArray, List.getElem_cons_succ, List.getElem_cons_zero, Act.put, List.setIfInBounds_toArray, List.set_cons_succ, List.set_cons_zero, Nat.reduceAdd]
      refine wpAnyH_take (i := 19) (v := .bool false) rfl (by kernel_rfl) (by kernel_rfl) (by kernel_rfl) (fun _ _ _ h => h) (Or.inl ⟨by rfl, fun w' hS' => ?_⟩) s3 ?_
      · obtain ⟨q0, q1, q2, q3, q4, q5, q6, q7, q8, q9, q10, q11, q12, q13, q14, q15, q16, q17⟩ := hS'
        go_simp
      simp only [List.getElem_toArray, List.getElem_cons_succ, List.getElem_cons_zero, Act.put, List.setIfInBounds_toArray, List.set_cons_succ, List.set_cons_zero, Nat.reduceAdd]
      refine wpAnyH_take (i := 20) (v := .bool false) rfl (by kernel_rfl) (by kernel_rfl) (by kernel_rfl) (fun _ _ _ h => h) (Or.inl ⟨by rfl, fun w' hS' => by rfl⟩) s3 ?_
      simp only [List.getElem_toArray, List.getElem_cons_succ, List.getElem_cons_zero, Act.put, List.setIfInBounds_toArray, List.set_cons_succ, List.set_cons_zero, Nat.reduceAdd]
      refine wpAnyH_take (i := 21) (v := .bool false) rfl (by kernel_rfl) (by kernel_rfl) (by kernel_rfl) (fun _ _ _ h => h) (Or.inl ⟨by rfl, fun w' hS' => by rfl⟩) s3 ?_
      simp only [List.getElem_toArray, List.getElem_cons_succ, List.getElem_cons_zero, Act.put, List.setIfInBounds_toArray, List.set_cons_succ, List.set_cons_zero, Nat.reduceAdd]
      refine wpAnyH_take (i := 22) (v := .bool true) rfl (by kernel_rfl) (by kernel_rfl) (by kernel_rfl) (fun _ _ _ h => h) (Or.inl ⟨by rfl, fun w' hS' => by rfl⟩) s3 ?_
      simp only [List.getElem_toArray, List.getElem_cons_succ, List.getElem_cons_zero, Act.put, List.setIfInBounds_toArray, List.set_cons_succ, List.set_cons_zero, Nat.reduceAdd]
      refine wpAnyH_take (i := 23) (v := .bool true) rfl (by kernel_rfl) (by kernel_rfl) (by kernel_rfl) (fun _ _ _ h => h) (Or.inl ⟨by rfl, fun w' hS' => by rfl⟩) s3 ?_
      simp only [List.getElem_toArray, List.getElem_cons_succ, List.getElem_cons_zero, Act.put, List.setIfInBounds_toArray, List.set_cons_succ, List.set_cons_zero, Nat.reduceAdd]
      refine wpAnyH_take (i := 24) (v := .bool false) rfl (by kernel_rfl) (by kernel_rfl) (by kernel_rfl) (fun _ _ _ h => h) (Or.inl ⟨by rfl, fun w' hS' => ?_⟩) s3 ?_
      · obtain ⟨q0, q1, q2, q3, q4, q5, q6, q7, q8, q9, q10, q11, q12, q13, q14, q15, q16, q17⟩ := hS'
        go_simp
      simp only [List.getElem_toArray, List.getElem_cons_succ, List.getElem_cons_zero, Act.put, List.setIfInBounds_toArray, List.set_cons_succ, List.set_cons_zero, Nat.reduceAdd]
      refine wpAnyH_take (i := 25) (v := .bool false) rfl (by kernel_rfl) (by kernel_rfl) (by kernel_rfl) (fun _ _ _ h => h) (Or.inl ⟨by rfl, fun w' hS' => by rfl⟩) s3 ?_
      simp only [List.getElem_toArray, List.getElem_cons_succ, List.getElem_cons_zero, Act.put, List.setIfInBounds_toArray, List.set_cons_succ, List.set_cons_zero, Nat.reduceAdd]
      refine wpAnyH_take (i := 26) (v := .bool false) rfl (by kernel_rfl) (by kernel_rfl) (by kernel_rfl) (fun _ _ _ h => h) (Or.inl ⟨by rfl, fun w' hS' => by rfl⟩) s3 ?_
      simp only [List.getElem_toArray, List.getElem_cons_succ, List.getElem_cons_zero, Act.put, List.setIfInBounds_toArray, List.set_cons_succ, List.set_cons_zero, Nat.reduceAdd]
      refine wpAnyH_take (i := 27) (v := ev I N) rfl (by kernel_rfl) (by kernel_rfl) (by kernel_rfl) (fun _ _ _ h => h) (Or.inl ⟨by rfl, fun w' hS' => ?_⟩) s3 ?_
      · obtain ⟨q0, q1, q2, q3, q4, q5, q6, q7, q8, q9, q10, q11, q12, q13, q14, q15, q16, q17⟩ := hS'
        go_simp
      simp only [List.getElem_toArray, List.getElem_cons_succ, List.getElem_cons_zero, Act.put, List.setIfInBounds_toArray, List.set_cons_succ, List.set_cons_zero, Nat.reduceAdd]
      refine wpAnyH_take (i := 28) (v := ev I N) rfl (by kernel_rfl) (by kernel_rfl) (by kernel_rfl) (fun _ _ _ h => h) (Or.inl ⟨by rfl, fun w' hS' => ?_⟩) s3 ?_
      · obtain ⟨q0, q1, q2, q3, q4, q5, q6, q7, q8, q9, q10, q11, q12, q13, q14, q15, q16, q17⟩ := hS'
        go_simp
      simp only [List.getElem_toArray, List.getElem_cons_succ, List.getElem_cons_zero, Act.put, List.setIfInBounds_toArray, List.set_cons_succ, List.set_cons_zero, Nat.reduceAdd]
      refine wpAnyH_take (i := 29) (v := .bool false) rfl (by kernel_rfl) (by kernel_rfl) (by kernel_rfl) (fun _ _ _ h => h) (Or.inl ⟨by rfl, fun w' hS' => ?_⟩) s3 ?_
      · obtain ⟨q0, q1, q2, q3, q4, q5, q6, q7, q8, q9, q10, q11, q12, q13, q14, q15, q16, q17⟩ := hS'
        go_simp
      simp only [List.getElem_toArray, List.getElem_cons_succ, List.getElem_cons_zero, Act.put, List.setIfInBounds_toArray, List.set_cons_succ, List.set_cons_zero, Nat.reduceAdd]
      refine wpAnyH_take (i := 30) (v := .bool false) rfl (by kernel_rfl) (by kernel_rfl) (by kernel_rfl) (fun _ _ _ h => h) (Or.inl ⟨by rfl, fun w' hS' => by rfl⟩) s3 ?_
      simp only [List.getElem_toArray, List.getElem_cons_succ, List.getElem_cons_zero, Act.put, List.setIfInBounds_toArray, List.set_cons_succ, List.set_cons_zero, Nat.reduceAdd]
      refine wpAnyH_take (i := 31) (v := .bool false) rfl (by kernel_rfl) (by kernel_rfl) (by kernel_rfl) (fun _ _ _ h => h) (Or.inl ⟨by rfl, fun w' hS' => by rfl⟩) s3 ?_
      simp only [List.getElem_toArray, List.getElem_cons_succ, List.getElem_cons_zero, Act.put, List.setIfInBounds_toArray, List.set_cons_succ, List.set_cons_zero, Nat.reduceAdd]
      refine wpAnyH_take (i := 32) (v := val k o s p zs.length cp) rfl (by kernel_rfl) (by kernel_rfl) (by kernel_rfl) (fun _ _ _ h => h) (Or.inl ⟨by rfl, fun w' hS' => ?_⟩) s3 ?_
      · obtain ⟨q0, q1, q2, q3, q4, q5, q6, q7, q8, q9, q10, q11, q12, q13, q14, q15, q16, q17⟩ := hS'
        go_simp
      simp only [List.getElem_toArray, List.getElem_cons_succ, List.getElem_cons_zero, Act.put, List.setIfInBounds_toArray, List.set_cons_succ, List.set_cons_zero, Nat.reduceAdd]
      refine wpAnyH_take (i := 34) (v := val k o s p zs.length cp) rfl (by kernel_rfl) (by kernel_rfl) (by kernel_rfl) (fun _ _ _ h => h) (Or.inl ⟨by rfl, fun w' hS' => ?_⟩) s3 ?_
      · obtain ⟨q0, q1, q2, q3, q4, q5, q6, q7, q8, q9, q10, q11, q12, q13, q14, q15, q16, q17⟩ := hS'
        go_simp
      simp only [List.getElem_toArray, List.getElem_cons_succ, List.getElem_cons_zero, Act.put, List.setIfInBounds_toArray, List.set_cons_succ, List.set_cons_zero, Nat.reduceAdd]
      refine Y0.one_callw (i := 33) (by kernel_rfl) rfl (by rfl) (.tmp 90) _ rfl (val k o s p zs.length cp) (by rfl) (enters_of Try.func32 (by kernel_rfl) rfl) ((iOk.out _ g3.r1).mono ?_)
      rintro e v4 ⟨rfl, hb4⟩
      have g4 := g3.below hb4
      have s4 := g4.cells
      refine ⟨_, rfl, s4, ?_⟩
      simp only [List.getElem_toArray, List.getElem_cons_succ, List.getElem_cons_zero, Act.put, List.setIfInBounds_toArray, List.set_cons_succ, List.set_cons_zero, Nat.reduceAdd]
      refine Y0.one_callw (i := 35) (by kernel_rfl) rfl (by rfl) (.tmp 92) _ rfl (val k o s p zs.length cp) (by rfl) (enters_of Try.func33 (by kernel_rfl) rfl) ((sOk.out _ g4.r1).mono ?_)
      rintro e v5 ⟨rfl, hb5⟩
      have g5 := g4.below hb5
      have s5 := g5.cells
      refine ⟨_, rfl, s5, ?_⟩
      simp only [List.getElem_toArray, List.getElem_cons_succ, List.getElem_cons_zero, Act.put, List.setIfInBounds_toArray, List.set_cons_succ, List.set_cons_zero, Nat.reduceAdd]
      refine wpAnyH_take (i := 36) (v := .bool false) rfl (by kernel_rfl) (by kernel_rfl) (by kernel_rfl) (fun _ _ _ h => h) (Or.inl ⟨by rfl, fun w' hS' => ?_⟩) s5 ?_
      · obtain ⟨q0, q1, q2, q3, q4, q5, q6, q7, q8, q9, q10, q11, q12, q13, q14, q15, q16, q17⟩ := hS'
        go_simp
      simp only [List.getElem_toArray, List.getElem_cons_succ, List.getElem_cons_zero, Act.put, List.setIfInBounds_toArray, List.set_cons_succ, List.set_cons_zero, Nat.reduceAdd]
      refine wpAnyH_take (i := 37) (v := .bool false) rfl (by kernel_rfl) (by kernel_rfl) (by kernel_rfl) (fun _ _ _ h => h) (Or.inl ⟨by rfl, fun w' hS' => by rfl⟩) s5 ?_
      simp only [List.getElem_toArray, List.getElem_cons_succ, List.getElem_cons_zero, Act.put, List.setIfInBounds_toArray, List.set_cons_succ, List.set_cons_zero, Nat.reduceAdd]
      refine wpAnyH_take (i := 38) (v := .bool false) rfl (by kernel_rfl) (by kernel_rfl) (by kernel_rfl) (fun _ _ _ h => h) (Or.inl ⟨by rfl, fun w' hS' => by rfl⟩) s5 ?_
      simp only [List.getElem_toArray, List.getElem_cons_succ, List.getElem_cons_zero, Act.put, List.setIfInBounds_toArray, List.set_cons_succ, List.set_cons_zero, Nat.reduceAdd]
      refine wpAnyH_take (i := 39) (v := ev i nm) rfl (by kernel_rfl) (by kernel_rfl) (by kernel_rfl) (fun _ _ _ h => h) (Or.inl ⟨by rfl, fun w' hS' => ?_⟩) s5 ?_
      · obtain ⟨q0, q1, q2, q3, q4, q5, q6, q7, q8, q9, q10, q11, q12, q13, q14, q15, q16, q17⟩ := hS'
        go_simp
      simp only [List.getElem_toArray, List.getElem_cons_succ, List.getElem_cons_zero, Act.put, List.setIfInBounds_toArray, List.set_cons_succ, List.set_cons_zero, Nat.reduceAdd]
      refine wpAnyH_take (i := 41) (v := ev i nm) rfl (by kernel_rfl) (by kernel_rfl) (by kernel_rfl) (fun _ _ _ h => h) (Or.inl ⟨by rfl, fun w' hS' => ?_⟩) s5 ?_
      · obtain ⟨q0, q1, q2, q3, q4, q5, q6, q7, q8, q9, q10, q11, q12, q13, q14, q15, q16, q17⟩ := hS'
        go_simp
      simp only [List.getElem_toArray, List.getElem_cons_succ, List.getElem_cons_zero, Act.put, List.setIfInBounds_toArray, List.set_cons_succ, List.set_cons_zero, Nat.reduceAdd]
      refine Y0.one_callw (i := 40) (by kernel_rfl) rfl (by rfl) (.tmp 97) _ rfl (ev i nm) (by rfl) (enters_of Try.func34 (by kernel_rfl) rfl) ((iEO.out _).mono ?_)
      rintro e v6 ⟨rfl, hb6⟩
      have g6 := g5.below hb6
      have s6 := g6.cells
      refine ⟨_, rfl, s6, ?_⟩
      simp only [List.getElem_toArray, List.getElem_cons_succ, List.getElem_cons_zero, Act.put, List.setIfInBounds_toArray, List.set_cons_succ, List.set_cons_zero, Nat.reduceAdd]
      refine Y0.one_callw (i := 42) (by kernel_rfl) rfl (by rfl) (.tmp 99) _ rfl (ev i nm) (by rfl) (enters_of Try.func35 (by kernel_rfl) rfl) ((sEO.out _).mono ?_)
      rintro e v7 ⟨rfl, hb7⟩
      have g7 := g6.below hb7
      have s7 := g7.cells
      refine ⟨_, rfl, s7, ?_⟩
      simp only [List.getElem_toArray, List.getElem_cons_succ, List.getElem_cons_zero, Act.put, List.setIfInBounds_toArray, List.set_cons_succ, List.set_cons_zero, Nat.reduceAdd]
      refine wpAnyH_take (i := 43) (v := .bool false) rfl (by kernel_rfl) (by kernel_rfl) (by kernel_rfl) (fun _ _ _ h => h) (Or.inl ⟨by rfl, fun w' hS' => ?_⟩) s7 ?_
      · obtain ⟨q0, q1, q2, q3, q4, q5, q6, q7, q8, q9, q10, q11, q12, q13, q14, q15, q16, q17⟩ := hS'
        go_simp
      simp only [List.getElem_toArray, List.getElem_cons_succ, List.getElem_cons_zero, Act.put, List.setIfInBounds_toArray, List.set_cons_succ, List.set_cons_zero, Nat.reduceAdd]
      refine wpAnyH_take (i := 44) (v := .bool false) rfl (by kernel_rfl) (by kernel_rfl) (by kernel_rfl) (fun _ _ _ h => h) (Or.inl ⟨by rfl, fun w' hS' => by rfl⟩) s7 ?_
      simp only [List.getElem_toArray, List.getElem_cons_succ, List.getElem_cons_zero, Act.put, List.setIfInBounds_toArray, List.set_cons_succ, List.set_cons_zero, Nat.reduceAdd]
      refine wpAnyH_take (i := 45) (v := .bool false) rfl (by kernel_rfl) (by kernel_rfl) (by kernel_rfl) (fun _ _ _ h => h) (Or.inl ⟨by rfl, fun w' hS' => by rfl⟩) s7 ?_
      simp only [List.getElem_toArray, List.getElem_cons_succ, List.getElem_cons_zero, Act.put, List.setIfInBounds_toArray, List.set_cons_succ, List.set_cons_zero, Nat.reduceAdd]
      refine wpAnyH_take (i := 46) (v := .int .i64 ri) rfl (by kernel_rfl) (by kernel_rfl) (by kernel_rfl) (fun _ _ _ h => h) (Or.inl ⟨by rfl, fun w' hS' => by rfl⟩) s7 ?_
      simp only [List.getElem_toArray, List.getElem_cons_succ, List.getElem_cons_zero, Act.put, List.setIfInBounds_toArray, List.set_cons_succ, List.set_cons_zero, Nat.reduceAdd]
      refine wpAnyH_take (i := 48) (v := .int .i64 ri) rfl (by kernel_rfl) (by kernel_rfl) (by kernel_rfl) (fun _ _ _ h => h) (Or.inl ⟨by rfl, fun w' hS' => by rfl⟩) s7 ?_
      simp only [List.getElem_toArray, List.getElem_cons_succ, List.getElem_cons_zero, Act.put, List.setIfInBounds_toArray, List.set_cons_succ, List.set_cons_zero, Nat.reduceAdd]
      refine Y0.one_callw (i := 47) (by kernel_rfl) rfl (by rfl) (.tmp 104) _ rfl (.int .i64 ri) (by rfl) (enters_of Try.func36 (by kernel_rfl) rfl) ((L1.impl_RecAt ri _).mono ?_)
      rintro e vq ⟨rfl, rfl⟩
      refine ⟨_, rfl, s7, ?_⟩
      simp only [List.getElem_toArray, List.getElem_cons_succ, List.getElem_cons_zero, Act.put, List.setIfInBounds_toArray, List.set_cons_succ, List.set_cons_zero, Nat.reduceAdd]
      refine Y0.one_callw (i := 49) (by kernel_rfl) rfl (by rfl) (.tmp 106) _ rfl (.int .i64 ri) (by rfl) (enters_of Try.func37 (by kernel_rfl) rfl) ((L1.spec_RecAt ri _).mono ?_)
      rintro e vq ⟨rfl, rfl⟩
      refine ⟨_, rfl, s7, ?_⟩
      simp only [List.getElem_toArray, List.getElem_cons_succ, List.getElem_cons_zero, Act.put, List.setIfInBounds_toArray, List.set_cons_succ, List.set_cons_zero, Nat.reduceAdd]
      refine wpAnyH_take (i := 50) (v := .bool false) rfl (by kernel_rfl) (by kernel_rfl) (by kernel_rfl) (fun _ _ _ h => h) (Or.inl ⟨by rfl, fun w' hS' => ?_⟩) s7 ?_
      · obtain ⟨q0, q1, q2, q3, q4, q5, q6, q7, q8, q9, q10, q11, q12, q13, q14, q15, q16, q17⟩ := hS'
        go_simp
      simp only [List.getElem_toArray, List.getElem_cons_succ, List.getElem_cons_zero, Act.put, List.setIfInBounds_toArray, List.set_cons_succ, List.set_cons_zero, Nat.reduceAdd]
      refine wpAnyH_take (i := 51) (v := .bool false) rfl (by kernel_rfl) (by kernel_rfl) (by kernel_rfl) (fun _ _ _ h => h) (Or.inl ⟨by rfl, fun w' hS' => by rfl⟩) s7 ?_
      simp only [List.getElem_toArray, List.getElem_cons_succ, List.getElem_cons_zero, Act.put, List.setIfInBounds_toArray, List.set_cons_succ, List.set_cons_zero, Nat.reduceAdd]
      refine wpAnyH_take (i := 52) (v := .bool false) rfl (by kernel_rfl) (by kernel_rfl) (by kernel_rfl) (fun _ _ _ h => h) (Or.inl ⟨by rfl, fun w' hS' => by rfl⟩) s7 ?_
      simp only [List.getElem_toArray, List.getElem_cons_succ, List.getElem_cons_zero, Act.put, List.setIfInBounds_toArray, List.set_cons_succ, List.set_cons_zero, Nat.reduceAdd]
      refine wpAnyH_take (i := 53) (v := .bool true) rfl (by kernel_rfl) (by kernel_rfl) (by kernel_rfl) (fun _ _ _ h => h) (Or.inl ⟨by rfl, fun w' hS' => by rfl⟩) s7 ?_
      simp only [List.getElem_toArray, List.getElem_cons_succ, List.getElem_cons_zero, Act.put, List.setIfInBounds_toArray, List.set_cons_succ, List.set_cons_zero, Nat.reduceAdd]
      refine wpAnyH_take (i := 54) (v := .bool true) rfl (by kernel_rfl) (by kernel_rfl) (by kernel_rfl) (fun _ _ _ h => h) (Or.inl ⟨by rfl, fun w' hS' => by rfl⟩) s7 ?_
      simp only [List.getElem_toArray, List.getElem_cons_succ, List.getElem_cons_zero, Act.put, List.setIfInBounds_toArray, List.set_cons_succ, List.set_cons_zero, Nat.reduceAdd]
      refine wpAnyH_take (i := 55) (v := val K O S ax Z.length cx) rfl (by kernel_rfl) (by kernel_rfl) (by kernel_rfl) (fun _ _ _ h => h) (Or.inl ⟨by rfl, fun w' hS' => ?_⟩) s7 ?_
      · obtain ⟨q0, q1, q2, q3, q4, q5, q6, q7, q8, q9, q10, q11, q12, q13, q14, q15, q16, q17⟩ := hS'
        go_simp
      simp only [List.getElem_toArray, List.getElem_cons_succ, List.getElem_cons_zero, Act.put, List.setIfInBounds_toArray, List.set_cons_succ, List.set_cons_zero, Nat.reduceAdd]
      refine wpAnyH_take (i := 57) (v := .string u) rfl (by kernel_rfl) (by kernel_rfl) (by kernel_rfl) (fun _ _ _ h => h) (Or.inl ⟨by rfl, fun w' hS' => by rfl⟩) s7 ?_
      simp only [List.getElem_toArray, List.getElem_cons_succ, List.getElem_cons_zero, Act.put, List.setIfInBounds_toArray, List.set_cons_succ, List.set_cons_zero, Nat.reduceAdd]
      refine Y0.one_callw (i := 56) (by kernel_rfl) rfl (by rfl) (.tmp 113) _ rfl (val K O S ax Z.length cx) (by rfl) (enters_of Try.func19 (by kernel_rfl) rfl) ((iPI.out (by trivial) _ g7.r2).mono ?_)
      rintro e v8 ⟨rfl, hb8⟩
      have g8 := g7.below hb8
      have s8 := g8.cells
      refine ⟨_, rfl, s8, ?_⟩
      simp only [List.getElem_toArray, List.getElem_cons_succ, List.getElem_cons_zero, Act.put, List.setIfInBounds_toArray, List.set_cons_succ, List.set_cons_zero, Nat.reduceAdd]
      refine wpAnyH_take (i := 58) (v := .bool false) rfl (by kernel_rfl) (by kernel_rfl) (by kernel_rfl) (fun _ _ _ h => h) (Or.inl ⟨by rfl, fun w' hS' => ?_⟩) s8 ?_
      · obtain ⟨q0, q1, q2, q3, q4, q5, q6, q7, q8, q9, q10, q11, q12, q13, q14, q15, q16, q17⟩ := hS'
        go_simp
      simp only [List.getElem_toArray, List.getElem_cons_succ, List.getElem_cons_zero, Act.put, List.setIfInBounds_toArray, List.set_cons_succ, List.set_cons_zero, Nat.reduceAdd]
      refine wpAnyH_take (i := 59) (v := .bool false) rfl (by kernel_rfl) (by kernel_rfl) (by kernel_rfl) (fun _ _ _ h => h) (Or.inl ⟨by rfl, fun w' hS' => by rfl⟩) s8 ?_
      simp only [List.getElem_toArray, List.getElem_cons_succ, List.getElem_cons_zero, Act.put, List.setIfInBounds_toArray, List.set_cons_succ, List.set_cons_zero, Nat.reduceAdd]
      refine wpAnyH_take (i := 60) (v := .bool false) rfl (by kernel_rfl) (by kernel_rfl) (by kernel_rfl) (fun _ _ _ h => h) (Or.inl ⟨by rfl, fun w' hS' => by rfl⟩) s8 ?_
      simp only [List.getElem_toArray, List.getElem_cons_succ, List.getElem_cons_zero, Act.put, List.setIfInBounds_toArray, List.set_cons_succ, List.set_cons_zero, Nat.reduceAdd]
      refine wpAnyH_take (i := 61) (v := .bool false) rfl (by kernel_rfl) (by kernel_rfl) (by kernel_rfl) (fun _ _ _ h => h) (Or.inl ⟨by rfl, fun w' hS' => by rfl⟩) s8 ?_
      simp only [List.getElem_toArray, List.getElem_cons_succ, List.getElem_cons_zero, Act.put, List.setIfInBounds_toArray, List.set_cons_succ, List.set_cons_zero, Nat.reduceAdd]
      refine wpAnyH_take (i := 62) (v := .bool true) rfl (by kernel_rfl) (by kernel_rfl) (by kernel_rfl) (fun _ _ _ h => h) (Or.inl ⟨by rfl, fun w' hS' => by rfl⟩) s8 ?_
      simp only [List.getElem_toArray, List.getElem_cons_succ, List.getElem_cons_zero, Act.put, List.setIfInBounds_toArray, List.set_cons_succ, List.set_cons_zero, Nat.reduceAdd]
      refine wpAnyH_take (i := 63) (v := .bool true) rfl (by kernel_rfl) (by kernel_rfl) (by kernel_rfl) (fun _ _ _ h => h) (Or.inl ⟨by rfl, fun w' hS' => by rfl⟩) s8 ?_
      simp only [List.getElem_toArray, List.getElem_cons_succ, List.getElem_cons_zero, Act.put, List.setIfInBounds_toArray, List.set_cons_succ, List.set_cons_zero, Nat.reduceAdd]
      refine wpAnyH_take (i := 64) (v := ev I N) rfl (by kernel_rfl) (by kernel_rfl) (by kernel_rfl) (fun _ _ _ h => h) (Or.inl ⟨by rfl, fun w' hS' => ?_⟩) s8 ?_
      · obtain ⟨q0, q1, q2, q3, q4, q5, q6, q7, q8, q9, q10, q11, q12, q13, q14, q15, q16, q17⟩ := hS'
        go_simp
      simp only [List.getElem_toArray, List.getElem_cons_succ, List.getElem_cons_zero, Act.put, List.setIfInBounds_toArray, List.set_cons_succ, List.set_cons_zero, Nat.reduceAdd]
      refine wpAnyH_take (i := 66) (v := .string v) rfl (by kernel_rfl) (by kernel_rfl) (by kernel_rfl) (fun _ _ _ h => h) (Or.inl ⟨by rfl, fun w' hS' => by rfl⟩) s8 ?_
      simp only [List.getElem_toArray, List.getElem_cons_succ, List.getElem_cons_zero, Act.put, List.setIfInBounds_toArray, List.set_cons_succ, List.set_cons_zero, Nat.reduceAdd]
      refine Y0.one_callw (i := 65) (by kernel_rfl) rfl (by rfl) (.tmp 122) _ rfl (ev I N) (by rfl) (enters_of Try.func24 (by kernel_rfl) rfl) ((iPE.out (by trivial) _).mono ?_)
      rintro e v9 ⟨rfl, hb9⟩
      have g9 := g8.below hb9
      have s9 := g9.cells
      refine ⟨_, rfl, s9, ?_⟩
      simp only [List.getElem_toArray, List.getElem_cons_succ, List.getElem_cons_zero, Act.put, List.setIfInBounds_toArray, List.set_cons_succ, List.set_cons_zero, Nat.reduceAdd]
      refine wpAnyH_take (i := 67) (v := .bool false) rfl (by kernel_rfl) (by kernel_rfl) (by kernel_rfl) (fun _ _ _ h => h) (Or.inl ⟨by rfl, fun w' hS' => ?_⟩) s9 ?_
      · obtain ⟨q0, q1, q2, q3, q4, q5, q6, q7, q8, q9, q10, q11, q12, q13, q14, q15, q16, q17⟩ := hS'
        go_simp
      simp only [List.getElem_toArray, List.getElem_cons_succ, List.getElem_cons_zero, Act.put, List.setIfInBounds_toArray, List.set_cons_succ, List.set_cons_zero, Nat.reduceAdd]
      refine wpAnyH_take (i := 68) (v := .bool false) rfl (by kernel_rfl) (by kernel_rfl) (by kernel_rfl) (fun _ _ _ h => h) (Or.inl ⟨by rfl, fun w' hS' => by rfl⟩) s9 ?_
      simp only [List.getElem_toArray, List.getElem_cons_succ, List.getElem_cons_zero, Act.put, List.setIfInBounds_toArray, List.set_cons_succ, List.set_cons_zero, Nat.reduceAdd]
      refine wpAnyH_take (i := 69) (v := .bool false) rfl (by kernel_rfl) (by kernel_rfl) (by kernel_rfl) (fun _ _ _ h => h) (Or.inl ⟨by rfl, fun w' hS' => by rfl⟩) s9 ?_
      simp only [List.getElem_toArray, List.getElem_cons_succ, List.getElem_cons_zero, Act.put, List.setIfInBounds_toArray, List.set_cons_succ, List.set_cons_zero, Nat.reduceAdd]
      refine wpAnyH_done (by kernel_rfl) ?_ _
      have g := g9
      clear s1 g1 hb1 s2 g2 hb2 s3 g3 hb3 s4 g4 hb4 s5 g5 hb5 s6 g6 hb6 s7 g7 hb7 s8 g8 hb8 s9 g9 hb9
      clear sPI sI sPE iOk sOk iEO iPI iPE
      have s0 := g.k4.c0
      have s1 := g.k4.c1
      by_cases hse : sv.toList = []
      · have hse' : (sv.toList != []) = false := by rw [hse]; rfl
        have hse1 : (sv.toList == []) = true := by rw [hse]; rfl
        by_cases hpe : pv.toList = []
        · have hpe' : (pv.toList == []) = true := by rw [hpe]; rfl
          have hb2 := hnil hpe
          subst hb2
          clear iGI iGE hsv16 hpv16 hnil sI2 hse hpe
          go_wp2_with (first
            | (go_at_call 30; refine (sI2.out _ _ _ x5 g.r1).mono ?_; rintro e v2 ⟨rfl, hb⟩; have g := g.below hb; have s0 := g.k4.c0; have s1 := g.k4.c1)
            | (go_at_call 35; refine (sEO.out _).mono ?_; rintro e v7 ⟨rfl, hb⟩; have g := g.below hb)
            | (go_at_call 21; refine (iGI' _).mono ?_; rintro e va ⟨a5, c5, rfl, x5, hb⟩; have nb := K0.below_new va (.cells #[.int .i64 k, .int .i64 o, .int .i64 s, .slice a5 zs.length c5] 26); have x5 := x5.below nb; have g := (g.below hb).below nb; have p0 := g.k1.c0; have p1 := g.k1.c1; have p2 := g.k1.c2; have p3 := g.k1.c3)
            | (go_at_call 26; refine (iGE' _).mono ?_; rintro e vb ⟨rfl, hb⟩; have nb := K0.below_new vb (.cells #[.int .i64 i, .string nm] 33); have g := (g.below hb).below nb; have s0 := g.k4.c0; have s1 := g.k4.c1))
          go_ret
          exact ⟨rfl, g.bel⟩
        · have hpe' : (pv.toList == []) = false := by simpa using hpe
          have h16 := hpv16 hpe
          have iGE' := iGE.out hpe
          clear iGI iGE hsv16 hpv16 hnil sI2 hse hpe
          go_wp2_with (first
            | (go_at_call 30; refine (sI2.out _ _ _ x5 g.r1).mono ?_; rintro e v2 ⟨rfl, hb⟩; have g := g.below hb; have s0 := g.k4.c0; have s1 := g.k4.c1)
            | (go_at_call 35; refine (sEO.out _).mono ?_; rintro e v7 ⟨rfl, hb⟩; have g := g.below hb)
            | (go_at_call 21; refine (iGI' _).mono ?_; rintro e va ⟨a5, c5, rfl, x5, hb⟩; have nb := K0.below_new va (.cells #[.int .i64 k, .int .i64 o, .int .i64 s, .slice a5 zs.length c5] 26); have x5 := x5.below nb; have g := (g.below hb).below nb; have p0 := g.k1.c0; have p1 := g.k1.c1; have p2 := g.k1.c2; have p3 := g.k1.c3)
            | (go_at_call 26; refine (iGE' _).mono ?_; rintro e vb ⟨rfl, hb⟩; have nb := K0.below_new vb (.cells #[.int .i64 i, .string nm] 33); have g := (g.below hb).below nb; have s0 := g.k4.c0; have s1 := g.k4.c1))
          go_ret
          exact ⟨rfl, g.bel⟩
      · have hse' : (sv.toList != []) = true := by simpa using hse
        have hse1 : (sv.toList == []) = false := by simpa using hse
        have h15 := hsv16 hse
        have iGI' := iGI.out hse
        by_cases hpe : pv.toList = []
        · have hpe' : (pv.toList == []) = true := by rw [hpe]; rfl
          have hb2 := hnil hpe
          subst hb2
          clear iGI iGE hsv16 hpv16 hnil hse hpe
          go_wp2_with (first
            | (go_at_call 30; refine (sI2.out _ _ _ x5 g.r1).mono ?_; rintro e v2 ⟨rfl, hb⟩; have g := g.below hb; have s0 := g.k4.c0; have s1 := g.k4.c1)
            | (go_at_call 35; refine (sEO.out _).mono ?_; rintro e v7 ⟨rfl, hb⟩; have g := g.below hb)
            | (go_at_call 21; refine (iGI' _).mono ?_; rintro e va ⟨a5, c5, rfl, x5, hb⟩; have nb := K0.below_new va (.cells #[.int .i64 k, .int .i64 o, .int .i64 s, .slice a5 zs.length c5] 26); have x5 := x5.below nb; have g := (g.below hb).below nb; have p0 := g.k1.c0; have p1 := g.k1.c1; have p2 := g.k1.c2; have p3 := g.k1.c3)
            | (go_at_call 26; refine (iGE' _).mono ?_; rintro e vb ⟨rfl, hb⟩; have nb := K0.below_new vb (.cells #[.int .i64 i, .string nm] 33); have g := (g.below hb).below nb; have s0 := g.k4.c0; have s1 := g.k4.c1))
          go_ret
          exact ⟨rfl, g.bel⟩
        · have hpe' : (pv.toList == []) = false := by simpa using hpe
          have h16 := hpv16 hpe
          have iGE' := iGE.out hpe
          clear iGI iGE hsv16 hpv16 hnil hse hpe
          go_wp2_with (first
            | (go_at_call 30; refine (sI2.out _ _ _ x5 g.r1).mono ?_; rintro e v2 ⟨rfl, hb⟩; have g := g.below hb; have s0 := g.k4.c0; have s1 := g.k4.c1)
            | (go_at_call 35; refine (sEO.out _).mono ?_; rintro e v7 ⟨rfl, hb⟩; have g := g.below hb)
            | (go_at_call 21; refine (iGI' _).mono ?_; rintro e va ⟨a5, c5, rfl, x5, hb⟩; have nb := K0.below_new va (.cells #[.int .i64 k, .int .i64 o, .int .i64 s, .slice a5 zs.length c5] 26); have x5 := x5.below nb; have g := (g.below hb).below nb; have p0 := g.k1.c0; have p1 := g.k1.c1; have p2 := g.k1.c2; have p3 := g.k1.c3)
            | (go_at_call 26; refine (iGE' _).mono ?_; rintro e vb ⟨rfl, hb⟩; have nb := K0.below_new vb (.cells #[.int .i64 i, .string nm] 33); have g := (g.below hb).below nb; have s0 := g.k4.c0; have s1 := g.k4.c1))
          go_ret
          exact ⟨rfl, g.bel⟩

set_option maxRecDepth 100000 in
theorem walk (a : Option Addr) (len cap : Nat) (w : World) (hc : Given w a len) : Calls Try.prog 3 #[.slice a len cap] w fun e w' => e = .returned (.bool true) ∧ Below w.heap.size w w' := by
  by_cases hl : 1048576 < (len : Int)
  · go_enter Try.func3, Try.ntmps3
    go_wp2_with (go_at_call 17; refine (Q0.big_yes a len cap w hl).mono ?_; rintro e w1 ⟨rfl, rfl⟩)
    go_ret
    exact ⟨rfl, Below.refl _ _⟩
  · exact walk_small a len cap w hc (by omega)
end Go.Proofs.Ytacalabjclclhaa.D8
