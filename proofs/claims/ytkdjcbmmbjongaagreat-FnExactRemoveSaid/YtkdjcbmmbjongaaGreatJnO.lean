/- Joined texts: plain facts and contracts, as each part says. -/
import Derived.Test.YtkdjcbmmbjongaaGreatJnN
import Derived.Test.YtkdjcbmmbjongaaGreatJnE
import Derived.Test.YtkdjcbmmbjongaaGreatJnF
import Derived.Test.YtkdjcbmmbjongaaGreatJnG

/- The contracts of impl.PutNames and spec.PutNames, as the given laws call them. -/
namespace Go.Proofs.YtkdjcbmmbjongaaGreat.NN
open Go.ChangeShapes Go.WideShapes Go.ChangeAt Go.RowKit
set_option linter.unusedVariables false
set_option linter.unusedSimpArgs false
set_option maxRecDepth 10000

open N0 (Ln)
open N1 (Sl Lists Fit LB lb_new)
open I0 (val)
open J0 (Own IBuf)
open SW (stOk)
open SQ (Ans)
open SF (mayHave allOf st_facts may_facts)
open NM (heldTo held_len)

/-- The pages that the fresh inodes of a loan have. -/
def barred (d : Ln) (mem : ByteArray) : List Int := heldTo mem d.fr d.fr.length

/-- Whether some entries are no directory. -/
def bad (es : List T0.Ent) : Bool := ((T0.putD es).toList == []) && decide (0 < es.length)

def namesOk (d : Ln) (mem : ByteArray) (es : List T0.Ent) : Bool := stOk d mem d.ino 2 && (!(bad es) && PF.fitsIn (mayHave d mem (barred d mem)) (T0.putD es))
def namesZ (d : Ln) (mem : ByteArray) (es : List T0.Ent) : List T0.Ent := if (stOk d mem d.ino 2 && !(bad es)) then allOf d mem 2 (barred d mem) (T0.putD es) else []

theorem names_no {d : Ln} {mem : ByteArray} {es : List T0.Ent} (h : (stOk d mem d.ino 2 && !(bad es)) = false) : namesOk d mem es = false ∧ namesZ d mem es = [] := by
  refine ⟨?_, by rw [namesZ, h]; rfl⟩
  rw [namesOk, ← Bool.and_assoc, h, Bool.false_and]
theorem names_yes {d : Ln} {mem : ByteArray} {es : List T0.Ent} (h1 : stOk d mem d.ino 2 = true) (h2 : bad es = false) : namesOk d mem es = PF.fitsIn (mayHave d mem (barred d mem)) (T0.putD es) ∧ namesZ d mem es = allOf d mem 2 (barred d mem) (T0.putD es) := by simp [namesOk, namesZ, h1, h2]
theorem namesZ_len (d : Ln) (mem : ByteArray) (es : List T0.Ent) : (namesZ d mem es).length ≤ 8 := by
  unfold namesZ
  split
  · exact PF.puts_len _ _ _ _ _
  · exact Nat.zero_le _

theorem putD_le (es : List T0.Ent) : (T0.putD es).size ≤ 192 := by
  unfold T0.putD
  split
  next h =>
    have hd := h
    simp only [T0.dirOk, Bool.and_eq_true, decide_eq_true_eq] at hd
    rw [T0.joined_size hd.2 es.length (Nat.le_refl _)]
    omega
  next => exact Nat.zero_le _

/-- Where some entries are a directory the two tests say so. -/
theorem good_tests {es : List T0.Ent} (h : bad es = false) : ((T0.putD es).toList == []) = false ∨ (((T0.putD es).toList == []) = true ∧ decide ((0 : Int) < (es.length : Int)) = false ∧ decide (0 < es.length) = false) := by
  unfold bad at h
  cases h1 : ((T0.putD es).toList == []) with
  | false => exact Or.inl rfl
  | true =>
    rw [h1, Bool.true_and] at h
    exact Or.inr ⟨rfl, by simp at h ⊢; omega, h⟩
theorem bad_tests {es : List T0.Ent} (h : bad es = true) : ((T0.putD es).toList == []) = true ∧ decide ((0 : Int) < (es.length : Int)) = true ∧ decide (0 < es.length) = true := by
  simp only [bad, Bool.and_eq_true] at h
  exact ⟨h.1, by have := h.2; simp at this ⊢; omega, h.2⟩

theorem held_facts {d : Ln} (mem : ByteArray) (h : N0.loanOk d = true) : d.fr.length ≤ 2 ∧ (∀ z ∈ d.fr, 1 ≤ z ∧ z ≤ 7) ∧ (barred d mem).length ≤ 24 := by
  obtain ⟨-, -, -, -, -, -, -, -, h2, -, h3, -, -⟩ := N0.loanOk_is h
  have := held_len mem d.fr d.fr.length
  exact ⟨h2, h3, by unfold barred; omega⟩

set_option maxHeartbeats 4000000 in
theorem impl_PutNames (d : Ln) (s : Sl) (mem : ByteArray) (ae : Option Addr) (ce : Nat) (es : List T0.Ent) (w : World) (hs : mem.size ≤ 281474976710656) (hF : Fit d s) (hpo : d.po.length ≤ 1048576) (hfr : d.fr.length ≤ 1048576) (he : es.length ≤ 1048576) (hce : es.length ≤ ce) (hfit : T0.Fits es) (hR : Lists w d s) (hE : T0.Row w ae es) :
    Calls Tryz.prog 10 #[N1.val d s, .string mem, .slice ae es.length ce] w (Ans (namesZ d mem es) (namesOk d mem es) w) := by
  have l0 := K0.below_new w (.cells #[.int .i64 d.ino, .int .i64 d.cl, .int .i64 d.un, .string d.rc, .slice s.a1 d.pg.length s.c1, .string d.sav, .slice s.a2 d.po.length s.c2, .slice s.a3 d.fr.length s.c3] 31)
  have x0 := lb_new d s w 31
  have HL : Hid (∀ W, Below w.heap.size w W → Lists W d s) := fun W hb => hR.below hb
  have HE : Hid (∀ W, Below w.heap.size w W → T0.Row W ae es) := fun W hb => hE.below hb
  have hst : Hid (∀ W, Lists W d s → Calls Tryz.prog 29 #[N1.val d s, .string mem, .int .i64 d.ino, .int .i64 2] W (SW.Ans d mem d.ino 2 W)) := fun W h => SW.standing d s mem d.ino 2 W hs hF hpo hfr h
  have hpd : Hid (∀ W, T0.Row W ae es → Calls Tryz.prog 30 #[.slice ae es.length ce] W fun e w' => e = .returned (.string (T0.putD es)) ∧ Below W.heap.size W w') := fun W h => T2.impl_PutDir ae ce es W he hce hfit h
  have hdl := putD_le es
  have L0 := HL.out _ l0
  clear hR hE hfit
  by_cases hk : stOk d mem d.ino 2 = true
  · obtain ⟨hm, hl, hI, hK⟩ := st_facts hk
    obtain ⟨f2, f7, f24⟩ := held_facts mem hl
    obtain ⟨g6, g10, g1000, gpg⟩ := may_facts (mem := mem) (barred d mem) hl hI
    obtain ⟨-, -, -, -, -, -, hp6, hp4, -, -, -, -, -⟩ := N0.loanOk_is hl
    have hst' : Hid (∀ W, Lists W d s → Calls Tryz.prog 29 #[N1.val d s, .string mem, .int .i64 d.ino, .int .i64 2] W fun e w' => ∃ (o t : Int) (a : Option Addr) (c : Nat), e = .returned (.tuple #[val 2 o t a (G0.gZ (O0.recd mem d.ino)).length c, .bool true]) ∧ Below W.heap.size W w' ∧ o = G0.gO (O0.recd mem d.ino) ∧ Own W.heap.size w' a (G0.gZ (O0.recd mem d.ino)) ∧ (G0.gZ (O0.recd mem d.ino)).length ≤ c) := fun W h => (hst.out W h).mono fun e w' ⟨k, o, t, a, n, c, he, hb, hy⟩ => by
      obtain ⟨r1, r2, r3, r4, r5, r6⟩ := hy hk
      subst r1 r4
      exact ⟨o, t, a, c, by rw [he, hk], hb, r2, r5, r6⟩
    obtain ⟨Z, hZ⟩ : ∃ Z, G0.gZ (O0.recd mem d.ino) = Z := ⟨_, rfl⟩
    obtain ⟨O, hO⟩ : ∃ O, G0.gO (O0.recd mem d.ino) = O := ⟨_, rfl⟩
    obtain ⟨D, hD⟩ : ∃ D, T0.putD es = D := ⟨_, rfl⟩
    obtain ⟨Br, hBr⟩ : ∃ Br, barred d mem = Br := ⟨_, rfl⟩
    have HM : mayHave d mem Br = PF.grow Z (d.pg ++ d.po) Br := by rw [mayHave, hZ]
    rw [hZ] at hst'
    rw [hBr] at gpg g1000 f24
    have HHe : Hid (∀ W, P0.Row W s.a3 d.fr → Calls Tryz.prog 31 #[.string mem, .slice s.a3 d.fr.length s.c3] W fun e w' => ∃ a c, e = .returned (.slice a Br.length c) ∧ Own W.heap.size w' a Br ∧ Br.length ≤ c ∧ Below W.heap.size W w') := fun W h => by
      have := NM.heldPages mem s.a3 s.c3 d.fr W hs (by omega) h
      rwa [show heldTo mem d.fr d.fr.length = Br from hBr] at this
    have HCo : Hid (∀ W, Below w.heap.size w W → Calls Tryz.prog 34 #[.slice (some ⟨W.heap.size, 0, none⟩) 2 2] (W.alloc (.cells #[.slice s.a1 d.pg.length s.c1, .slice s.a2 d.po.length s.c2] 22)).drew fun e w' => ∃ a' c', e = .returned (.slice a' (d.pg ++ d.po).length c') ∧ J0.Own (W.alloc (.cells #[.slice s.a1 d.pg.length s.c1, .slice s.a2 d.po.length s.c2] 22)).drew.heap.size w' a' (d.pg ++ d.po) ∧ (d.pg ++ d.po).length ≤ c' ∧ Below (W.alloc (.cells #[.slice s.a1 d.pg.length s.c1, .slice s.a2 d.po.length s.c2] 22)).drew.heap.size (W.alloc (.cells #[.slice s.a1 d.pg.length s.c1, .slice s.a2 d.po.length s.c2] 22)).drew w') := fun W hb => by
      have hk := (K0.blk_new [.slice s.a1 d.pg.length s.c1, .slice s.a2 d.po.length s.c2] W 22).drew
      have hl := ((HL.out W hb).alloc (.cells #[.slice s.a1 d.pg.length s.c1, .slice s.a2 d.po.length s.c2] 22)).drew
      exact Q1.concat W.heap.size s.a1 s.a2 s.c1 s.c2 d.pg d.po _ hk.c0 hk.c1 hk.lt hl.r1 hl.r2 (by omega) (by omega)
    have HP : Hid (∀ (t : Int) (an : Option Addr) (cn : Nat) W al cl ab cb, P0.Row W an Z → P0.Row W al (d.pg ++ d.po) → P0.Row W ab Br → Calls Tryz.prog 33 #[val 2 O t an Z.length cn, .slice al (d.pg ++ d.po).length cl, .slice ab Br.length cb] W fun e w' => ∃ a' c', e = .returned (.slice a' (mayHave d mem Br).length c') ∧ Own W.heap.size w' a' (mayHave d mem Br) ∧ (mayHave d mem Br).length ≤ c' ∧ Below W.heap.size W w') := fun t an cn W al cl ab cb h1 h2 h3 => by
      have := SR.pagesToFill 2 O t an al ab cn cl cb Z (d.pg ++ d.po) Br W h1 h2 h3 (by rw [← hZ]; omega) (by omega) (by omega)
      rw [← HM] at this
      exact this
    have HD : Hid (∀ (t : Int) (an : Option Addr) (cn : Nat) W ap cp, P0.Row W ap (mayHave d mem Br) → (mayHave d mem Br).length ≤ cp → Calls Tryz.prog 32 #[.int .i64 d.ino, val 2 O t an Z.length cn, .slice ap (mayHave d mem Br).length cp, .string D] W (Ans (allOf d mem 2 Br D) (PF.fitsIn (mayHave d mem Br) D) W)) := fun t an cn W ap cp h1 h2 => by
      have := SQ.putData d.ino 2 O t an ap Z.length cn cp (mayHave d mem Br) D W (by rw [← hD]; omega) g1000 h2 gpg h1
      rw [← hO] at this
      rw [← hO]
      exact this
    obtain ⟨Y, hY⟩ : ∃ Y, d.pg ++ d.po = Y := ⟨_, rfl⟩
    rw [hY] at HCo HP
    rw [hO] at hst'
    rw [hD] at hpd
    have HB : Hid (stOk d mem d.ino 2 = true ∧ T0.putD es = D ∧ barred d mem = Br) := ⟨hk, hD, hBr⟩
    clear hst hk hm hl hI hK hZ hO HM g6 g10 g1000 gpg f7 f24 hY hdl
    by_cases hb : bad es = true
    · obtain ⟨fo, fz⟩ := names_no (d := d) (mem := mem) (es := es) (by rw [hb]; simp)
      rw [fo, fz]
      obtain ⟨b1, b2, b2'⟩ := bad_tests hb
      rw [hD] at b1
      clear hb fo fz hD hBr
      go_enter Tryz.func10, Tryz.ntmps10
      go_wp2_with (first
        | (go_at_call 29; refine (hst'.out _ L0).mono ?_; rintro e w3 ⟨o3, t3, a3, c3, rfl, bb3, ho3, own3, q3⟩; subst o3; have l3 := l0.trans (bb3.mono l0.size); have l4 := l3.alloc l3.size (.cells #[.int .i64 2, .int .i64 O, .int .i64 t3, .slice a3 Z.length c3] 49))
        | (go_at_call 30; refine (hpd.out _ (HE.out _ l4)).mono ?_; rintro e w5 ⟨rfl, bb5⟩; have l5 := l4.trans (bb5.mono l4.size); have l6 := l5.alloc l5.size (.cells #[] 65)))
      go_ret2
      exact SQ.ans_no l6
    · have hb' : bad es = false := by simpa using hb
      have HF : Hid (∀ e w', Ans (allOf d mem 2 Br D) (PF.fitsIn (mayHave d mem Br) D) w e w' → Ans (namesZ d mem es) (namesOk d mem es) w e w') := fun e w' h => by
        obtain ⟨h1, h2, h3⟩ := HB.out
        obtain ⟨fo, fz⟩ := names_yes h1 hb'
        rw [fo, fz, h3, h2]
        exact h
      have ht := good_tests hb'
      rw [hD] at ht
      clear hb hb' HB hD hBr
      rcases ht with b1 | ⟨b1, b2, b2'⟩
      all_goals
        go_enter Tryz.func10, Tryz.ntmps10
        go_wp2_with (first
          | (go_at_call 29; refine (hst'.out _ L0).mono ?_; rintro e w3 ⟨o3, t3, a3, c3, rfl, bb3, ho3, own3, q3⟩; subst o3; have l3 := l0.trans (bb3.mono l0.size); have x3 := x0.below bb3; have n4 := K0.below_new w3 (.cells #[.int .i64 2, .int .i64 O, .int .i64 t3, .slice a3 Z.length c3] 49); have y4 := K0.blk_new [.int .i64 2, .int .i64 O, .int .i64 t3, .slice a3 Z.length c3] w3 49; have l4 := l3.trans (n4.mono l3.size); have x4 := x3.below n4; have o4 := own3.below n4)
          | (go_at_call 30; refine (hpd.out _ (HE.out _ l4)).mono ?_; rintro e w5 ⟨rfl, bb5⟩; have l5 := l4.trans (bb5.mono l4.size); have x5 := x4.below bb5; have y5 := y4.below bb5; have o5 := o4.below bb5; have c7 := x5.c7)
          | (go_at_call 31; refine (HHe.out _ (HL.out _ l5).r3).mono ?_; rintro e w6 ⟨a6, c6, rfl, ob6, q6, bb6⟩; have l6 := l5.trans (bb6.mono l5.size); have x6 := x5.below bb6; have y6 := y5.below bb6; have o6 := o5.below bb6))
        obtain ⟨N, hN⟩ : ∃ N, w3.heap.size = N := ⟨_, rfl⟩
        rw [hN] at y6 ⊢
        clear hN n4 y4 y5
        have S6 : w6.drew.cell? ⟨w.heap.size, 0, none⟩ = some (.int .i64 d.ino) ∧ w6.drew.cell? ⟨w.heap.size, 4, none⟩ = some (.slice s.a1 d.pg.length s.c1) ∧ w6.drew.cell? ⟨w.heap.size, 6, none⟩ = some (.slice s.a2 d.po.length s.c2) ∧ w6.drew.cell? ⟨N, 0, none⟩ = some (.int .i64 2) ∧ w6.drew.cell? ⟨N, 1, none⟩ = some (.int .i64 O) ∧ w6.drew.cell? ⟨N, 2, none⟩ = some (.int .i64 t3) ∧ w6.drew.cell? ⟨N, 3, none⟩ = some (.slice a3 Z.length c3) := ⟨x6.c0, x6.c4, x6.c6, y6.c0, y6.c1, y6.c2, y6.c3⟩
        have n7 := (K0.below_new w6 (.cells #[.slice s.a1 d.pg.length s.c1, .slice s.a2 d.po.length s.c2] 22)).drew
        have x7 := x6.below n7
        have y7 := y6.below n7
        have l7 := l6.trans (n7.mono l6.size)
        have o7 := o6.below n7
        have ob7 := ob6.below n7
        have S7 : (w6.alloc (.cells #[.slice s.a1 d.pg.length s.c1, .slice s.a2 d.po.length s.c2] 22)).drew.cell? ⟨w.heap.size, 0, none⟩ = some (.int .i64 d.ino) ∧ (w6.alloc (.cells #[.slice s.a1 d.pg.length s.c1, .slice s.a2 d.po.length s.c2] 22)).drew.cell? ⟨w.heap.size, 4, none⟩ = some (.slice s.a1 d.pg.length s.c1) ∧ (w6.alloc (.cells #[.slice s.a1 d.pg.length s.c1, .slice s.a2 d.po.length s.c2] 22)).drew.cell? ⟨w.heap.size, 6, none⟩ = some (.slice s.a2 d.po.length s.c2) ∧ (w6.alloc (.cells #[.slice s.a1 d.pg.length s.c1, .slice s.a2 d.po.length s.c2] 22)).drew.cell? ⟨N, 0, none⟩ = some (.int .i64 2) ∧ (w6.alloc (.cells #[.slice s.a1 d.pg.length s.c1, .slice s.a2 d.po.length s.c2] 22)).drew.cell? ⟨N, 1, none⟩ = some (.int .i64 O) ∧ (w6.alloc (.cells #[.slice s.a1 d.pg.length s.c1, .slice s.a2 d.po.length s.c2] 22)).drew.cell? ⟨N, 2, none⟩ = some (.int .i64 t3) ∧ (w6.alloc (.cells #[.slice s.a1 d.pg.length s.c1, .slice s.a2 d.po.length s.c2] 22)).drew.cell? ⟨N, 3, none⟩ = some (.slice a3 Z.length c3) := ⟨x7.c0, x7.c4, x7.c6, y7.c0, y7.c1, y7.c2, y7.c3⟩
        go_region_held3 (fun W => W.cell? ⟨w.heap.size, 0, none⟩ = some (.int .i64 d.ino) ∧ W.cell? ⟨w.heap.size, 4, none⟩ = some (.slice s.a1 d.pg.length s.c1) ∧ W.cell? ⟨w.heap.size, 6, none⟩ = some (.slice s.a2 d.po.length s.c2) ∧ W.cell? ⟨N, 0, none⟩ = some (.int .i64 2) ∧ W.cell? ⟨N, 1, none⟩ = some (.int .i64 O) ∧ W.cell? ⟨N, 2, none⟩ = some (.int .i64 t3) ∧ W.cell? ⟨N, 3, none⟩ = some (.slice a3 Z.length c3)) (assumption) ((first
          | (go_at_call 34; refine (HCo.out w6 l6).mono ?_; rintro e w8 ⟨a8, c8, rfl, oc8, q8, bb8⟩; have l8 := l7.trans (bb8.mono l7.size); have x8 := x7.below bb8; have y8 := y7.below bb8; have o8 := o7.below bb8; have ob8 := ob7.below bb8; have S8 : w8.cell? ⟨w.heap.size, 0, none⟩ = some (.int .i64 d.ino) ∧ w8.cell? ⟨w.heap.size, 4, none⟩ = some (.slice s.a1 d.pg.length s.c1) ∧ w8.cell? ⟨w.heap.size, 6, none⟩ = some (.slice s.a2 d.po.length s.c2) ∧ w8.cell? ⟨N, 0, none⟩ = some (.int .i64 2) ∧ w8.cell? ⟨N, 1, none⟩ = some (.int .i64 O) ∧ w8.cell? ⟨N, 2, none⟩ = some (.int .i64 t3) ∧ w8.cell? ⟨N, 3, none⟩ = some (.slice a3 Z.length c3) := ⟨x8.c0, x8.c4, x8.c6, y8.c0, y8.c1, y8.c2, y8.c3⟩)
          | (go_at_call 33; refine (HP.out t3 a3 c3 w8 a8 c8 a6 c6 o8.row oc8.row ob8.row).mono ?_; rintro e w9 ⟨a9, c9, rfl, o9, q9, bb9⟩; have l9 := l8.trans (bb9.mono l8.size); have x9 := x8.below bb9; have y9 := y8.below bb9; have S9 : w9.cell? ⟨w.heap.size, 0, none⟩ = some (.int .i64 d.ino) ∧ w9.cell? ⟨w.heap.size, 4, none⟩ = some (.slice s.a1 d.pg.length s.c1) ∧ w9.cell? ⟨w.heap.size, 6, none⟩ = some (.slice s.a2 d.po.length s.c2) ∧ w9.cell? ⟨N, 0, none⟩ = some (.int .i64 2) ∧ w9.cell? ⟨N, 1, none⟩ = some (.int .i64 O) ∧ w9.cell? ⟨N, 2, none⟩ = some (.int .i64 t3) ∧ w9.cell? ⟨N, 3, none⟩ = some (.slice a3 Z.length c3) := ⟨x9.c0, x9.c4, x9.c6, y9.c0, y9.c1, y9.c2, y9.c3⟩)
          | (go_at_call 32; refine (HD.out t3 a3 c3 w9 a9 c9 o9.row q9).mono ?_; rintro e w10 ⟨a10, c10, rfl, o10, q10, bb10⟩; have l10 := l9.trans (bb10.mono l9.size); have x10 := x9.below bb10; have y10 := y9.below bb10; have S10 : w10.cell? ⟨w.heap.size, 0, none⟩ = some (.int .i64 d.ino) ∧ w10.cell? ⟨w.heap.size, 4, none⟩ = some (.slice s.a1 d.pg.length s.c1) ∧ w10.cell? ⟨w.heap.size, 6, none⟩ = some (.slice s.a2 d.po.length s.c2) ∧ w10.cell? ⟨N, 0, none⟩ = some (.int .i64 2) ∧ w10.cell? ⟨N, 1, none⟩ = some (.int .i64 O) ∧ w10.cell? ⟨N, 2, none⟩ = some (.int .i64 t3) ∧ w10.cell? ⟨N, 3, none⟩ = some (.slice a3 Z.length c3) := ⟨x10.c0, x10.c4, x10.c6, y10.c0, y10.c1, y10.c2, y10.c3⟩)))
        all_goals
          go_wp2
          go_ret2
          exact HF.out _ _ ⟨a10, c10, rfl, o10.mono l9.size, q10, l10⟩
  · have hk' : stOk d mem d.ino 2 = false := by simpa using hk
    obtain ⟨fo, fz⟩ := names_no (d := d) (mem := mem) (es := es) (by rw [hk']; rfl)
    rw [fo, fz]
    have hst' : Hid (∀ W, Lists W d s → Calls Tryz.prog 29 #[N1.val d s, .string mem, .int .i64 d.ino, .int .i64 2] W fun e w' => ∃ (k o t : Int) (a : Option Addr) (n c : Nat), e = .returned (.tuple #[val k o t a n c, .bool false]) ∧ Below W.heap.size W w') := fun W h => (hst.out W h).mono fun e w' ⟨k, o, t, a, n, c, he, hb, _⟩ => ⟨k, o, t, a, n, c, by rw [he, hk'], hb⟩
    clear hst hk hk' fo fz
    go_enter Tryz.func10, Tryz.ntmps10
    go_wp2_with (first
      | (go_at_call 29; refine (hst'.out _ L0).mono ?_; rintro e w3 ⟨k3, o3, t3, a3, n3, c3, rfl, b3⟩; have l3 := l0.trans (b3.mono l0.size); have l4 := l3.alloc l3.size (.cells #[.int .i64 k3, .int .i64 o3, .int .i64 t3, .slice a3 n3 c3] 49))
      | (go_at_call 30; refine (hpd.out _ (HE.out _ l4)).mono ?_; rintro e w5 ⟨rfl, b5⟩; have l5 := l4.trans (b5.mono l4.size); have l6 := l5.alloc l5.size (.cells #[] 65)))
    go_ret2
    exact SQ.ans_no l6

set_option maxHeartbeats 4000000 in
theorem spec_PutNames (d : Ln) (s : Sl) (mem : ByteArray) (ae : Option Addr) (ce : Nat) (es : List T0.Ent) (w : World) (hs : mem.size ≤ 281474976710656) (hF : Fit d s) (hpo : d.po.length ≤ 1048576) (hfr : d.fr.length ≤ 1048576) (he : es.length ≤ 1048576) (hce : es.length ≤ ce) (hfit : T0.Fits es) (hR : Lists w d s) (hE : T0.Row w ae es) :
    Calls Tryz.prog 7 #[N1.val d s, .string mem, .slice ae es.length ce] w (Ans (namesZ d mem es) (namesOk d mem es) w) := by
  have l0 := K0.below_new w (.cells #[.int .i64 d.ino, .int .i64 d.cl, .int .i64 d.un, .string d.rc, .slice s.a1 d.pg.length s.c1, .string d.sav, .slice s.a2 d.po.length s.c2, .slice s.a3 d.fr.length s.c3] 31)
  have x0 := lb_new d s w 31
  have HL : Hid (∀ W, Below w.heap.size w W → Lists W d s) := fun W hb => hR.below hb
  have HE : Hid (∀ W, Below w.heap.size w W → T0.Row W ae es) := fun W hb => hE.below hb
  have hst : Hid (∀ W, Lists W d s → Calls Tryz.prog 22 #[N1.val d s, .string mem, .int .i64 2] W (SW.Ans d mem d.ino 2 W)) := fun W h => SX.l07Inode d s mem 2 W hs hF hpo hfr h
  have hpd : Hid (∀ W, T0.Row W ae es → Calls Tryz.prog 23 #[.slice ae es.length ce] W fun e w' => e = .returned (.string (T0.putD es)) ∧ Below W.heap.size W w') := fun W h => T3.spec_PutDir ae ce es W he hce hfit h
  have hdl := putD_le es
  have L0 := HL.out _ l0
  clear hR hE hfit
  by_cases hk : stOk d mem d.ino 2 = true
  · obtain ⟨hm, hl, hI, hK⟩ := st_facts hk
    obtain ⟨f2, f7, f24⟩ := held_facts mem hl
    obtain ⟨g6, g10, g1000, gpg⟩ := may_facts (mem := mem) (barred d mem) hl hI
    obtain ⟨-, -, -, -, -, -, hp6, hp4, -, -, -, -, -⟩ := N0.loanOk_is hl
    have hst' : Hid (∀ W, Lists W d s → Calls Tryz.prog 22 #[N1.val d s, .string mem, .int .i64 2] W fun e w' => ∃ (o t : Int) (a : Option Addr) (c : Nat), e = .returned (.tuple #[val 2 o t a (G0.gZ (O0.recd mem d.ino)).length c, .bool true]) ∧ Below W.heap.size W w' ∧ o = G0.gO (O0.recd mem d.ino) ∧ Own W.heap.size w' a (G0.gZ (O0.recd mem d.ino)) ∧ (G0.gZ (O0.recd mem d.ino)).length ≤ c) := fun W h => (hst.out W h).mono fun e w' ⟨k, o, t, a, n, c, he, hb, hy⟩ => by
      obtain ⟨r1, r2, r3, r4, r5, r6⟩ := hy hk
      subst r1 r4
      exact ⟨o, t, a, c, by rw [he, hk], hb, r2, r5, r6⟩
    obtain ⟨Z, hZ⟩ : ∃ Z, G0.gZ (O0.recd mem d.ino) = Z := ⟨_, rfl⟩
    obtain ⟨O, hO⟩ : ∃ O, G0.gO (O0.recd mem d.ino) = O := ⟨_, rfl⟩
    obtain ⟨D, hD⟩ : ∃ D, T0.putD es = D := ⟨_, rfl⟩
    obtain ⟨Br, hBr⟩ : ∃ Br, barred d mem = Br := ⟨_, rfl⟩
    have HM : mayHave d mem Br = PF.grow Z (d.pg ++ d.po) Br := by rw [mayHave, hZ]
    rw [hZ] at hst'
    rw [hBr] at gpg g1000 f24
    have HHe : Hid (∀ W, P0.Row W s.a3 d.fr → Calls Tryz.prog 26 #[N1.val d s, .string mem, .int .i64 (-1)] W fun e w' => ∃ a c, e = .returned (.slice a Br.length c) ∧ Own W.heap.size w' a Br ∧ Br.length ≤ c ∧ Below W.heap.size W w') := fun W h => by
      have := NM.l07Taken d s mem W hs (by omega) f7 h
      rwa [show heldTo mem d.fr d.fr.length = Br from hBr] at this
    have HRs : Hid (∀ W al cl at_ ct, P0.Row W al (d.pg ++ d.po) → P0.Row W at_ Br → Calls Tryz.prog 25 #[.slice al (d.pg.length + d.po.length) cl, .slice at_ Br.length ct] W fun e w' => ∃ a' c', e = .returned (.slice a' (PF.rest (d.pg ++ d.po) Br).length c') ∧ Own W.heap.size w' a' (PF.rest (d.pg ++ d.po) Br) ∧ (PF.rest (d.pg ++ d.po) Br).length ≤ c' ∧ Below W.heap.size W w') := fun W al cl at_ ct h1 h2 => by
      have := NM.l07Rest al at_ cl ct (d.pg ++ d.po) Br W (by omega) (by omega) h1 h2
      rw [List.length_append] at this
      exact this
    have hrl := PF.rest_len (d.pg ++ d.po) Br
    have HD : Hid (∀ (t : Int) (an : Option Addr) (cn : Nat) W am cm, P0.Row W an Z → P0.Row W am (PF.rest (d.pg ++ d.po) Br) → Calls Tryz.prog 24 #[.int .i64 d.ino, val 2 O t an Z.length cn, .slice am (PF.rest (d.pg ++ d.po) Br).length cm, .string D] W (Ans (allOf d mem 2 Br D) (PF.fitsIn (mayHave d mem Br) D) W)) := fun t an cn W am cm h1 h2 => by
      have := SY.l07Write d.ino 2 O t an am cn cm Z (PF.rest (d.pg ++ d.po) Br) D W (by rw [← hD]; omega) (by rw [← hZ]; omega) (by omega) (by rw [PF.grow_rest, ← HM]; exact gpg) h1 h2
      rw [PF.grow_rest, ← HM, ← hO] at this
      rw [← hO]
      exact this
    obtain ⟨Y, hY⟩ : ∃ Y, PF.rest (d.pg ++ d.po) Br = Y := ⟨_, rfl⟩
    rw [hY] at HRs HD
    rw [hO] at hst'
    rw [hD] at hpd
    have HB : Hid (stOk d mem d.ino 2 = true ∧ T0.putD es = D ∧ barred d mem = Br) := ⟨hk, hD, hBr⟩
    clear hst hk hm hl hI hK hZ hO HM g6 g10 g1000 gpg f7 f24 hY hdl
    by_cases hb : bad es = true
    · obtain ⟨fo, fz⟩ := names_no (d := d) (mem := mem) (es := es) (by rw [hb]; simp)
      rw [fo, fz]
      obtain ⟨b1, b2, b2'⟩ := bad_tests hb
      rw [hD] at b1
      clear hb fo fz hD hBr
      go_enter Tryz.func7, Tryz.ntmps7
      go_wp2_with (first
        | (go_at_call 22; refine (hst'.out _ L0).mono ?_; rintro e w3 ⟨o3, t3, a3, c3, rfl, bb3, ho3, own3, q3⟩; subst o3; have l3 := l0.trans (bb3.mono l0.size); have l4 := l3.alloc l3.size (.cells #[.int .i64 2, .int .i64 O, .int .i64 t3, .slice a3 Z.length c3] 49))
        | (go_at_call 23; refine (hpd.out _ (HE.out _ l4)).mono ?_; rintro e w5 ⟨rfl, bb5⟩; have l5 := l4.trans (bb5.mono l4.size); have l6 := l5.alloc l5.size (.cells #[] 65)))
      go_ret2
      exact SQ.ans_no l6
    · have hb' : bad es = false := by simpa using hb
      have HF : Hid (∀ e w', Ans (allOf d mem 2 Br D) (PF.fitsIn (mayHave d mem Br) D) w e w' → Ans (namesZ d mem es) (namesOk d mem es) w e w') := fun e w' h => by
        obtain ⟨h1, h2, h3⟩ := HB.out
        obtain ⟨fo, fz⟩ := names_yes h1 hb'
        rw [fo, fz, h3, h2]
        exact h
      have ht := good_tests hb'
      rw [hD] at ht
      clear hb hb' HB hD hBr
      rcases ht with b1 | ⟨b1, b2, b2'⟩
      all_goals
        go_enter Tryz.func7, Tryz.ntmps7
        go_wp2_with (first
          | (go_at_call 22; refine (hst'.out _ L0).mono ?_; rintro e w3 ⟨o3, t3, a3, c3, rfl, bb3, ho3, own3, q3⟩; subst o3; have l3 := l0.trans (bb3.mono l0.size); have x3 := x0.below bb3; have n4 := K0.below_new w3 (.cells #[.int .i64 2, .int .i64 O, .int .i64 t3, .slice a3 Z.length c3] 49); have y4 := K0.blk_new [.int .i64 2, .int .i64 O, .int .i64 t3, .slice a3 Z.length c3] w3 49; have l4 := l3.trans (n4.mono l3.size); have x4 := x3.below n4; have o4 := own3.below n4)
          | (go_at_call 23; refine (hpd.out _ (HE.out _ l4)).mono ?_; rintro e w5 ⟨rfl, bb5⟩; have l5 := l4.trans (bb5.mono l4.size); have x5 := x4.below bb5; have y5 := y4.below bb5; have o5 := o4.below bb5; have c7 := x5.c7))
        obtain ⟨N, hN⟩ : ∃ N, w3.heap.size = N := ⟨_, rfl⟩
        rw [hN] at y5 ⊢
        clear hN n4 y4
        have S5 : w5.drew.cell? ⟨w.heap.size, 0, none⟩ = some (.int .i64 d.ino) ∧ w5.drew.cell? ⟨w.heap.size, 1, none⟩ = some (.int .i64 d.cl) ∧ w5.drew.cell? ⟨w.heap.size, 2, none⟩ = some (.int .i64 d.un) ∧ w5.drew.cell? ⟨w.heap.size, 3, none⟩ = some (.string d.rc) ∧ w5.drew.cell? ⟨w.heap.size, 4, none⟩ = some (.slice s.a1 d.pg.length s.c1) ∧ w5.drew.cell? ⟨w.heap.size, 5, none⟩ = some (.string d.sav) ∧ w5.drew.cell? ⟨w.heap.size, 6, none⟩ = some (.slice s.a2 d.po.length s.c2) ∧ w5.drew.cell? ⟨w.heap.size, 7, none⟩ = some (.slice s.a3 d.fr.length s.c3) ∧ w5.drew.cell? ⟨N, 0, none⟩ = some (.int .i64 2) ∧ w5.drew.cell? ⟨N, 1, none⟩ = some (.int .i64 O) ∧ w5.drew.cell? ⟨N, 2, none⟩ = some (.int .i64 t3) ∧ w5.drew.cell? ⟨N, 3, none⟩ = some (.slice a3 Z.length c3) := ⟨x5.c0, x5.c1, x5.c2, x5.c3, x5.c4, x5.c5, x5.c6, x5.c7, y5.c0, y5.c1, y5.c2, y5.c3⟩
        have n6 := (K0.below_new w5 (.cells #[] 3)).drew
        have x6 := x5.below n6
        have y6 := y5.below n6
        have l6 := l5.trans (n6.mono l5.size)
        have S6 : (w5.alloc (.cells #[] 3)).drew.cell? ⟨w.heap.size, 0, none⟩ = some (.int .i64 d.ino) ∧ (w5.alloc (.cells #[] 3)).drew.cell? ⟨w.heap.size, 1, none⟩ = some (.int .i64 d.cl) ∧ (w5.alloc (.cells #[] 3)).drew.cell? ⟨w.heap.size, 2, none⟩ = some (.int .i64 d.un) ∧ (w5.alloc (.cells #[] 3)).drew.cell? ⟨w.heap.size, 3, none⟩ = some (.string d.rc) ∧ (w5.alloc (.cells #[] 3)).drew.cell? ⟨w.heap.size, 4, none⟩ = some (.slice s.a1 d.pg.length s.c1) ∧ (w5.alloc (.cells #[] 3)).drew.cell? ⟨w.heap.size, 5, none⟩ = some (.string d.sav) ∧ (w5.alloc (.cells #[] 3)).drew.cell? ⟨w.heap.size, 6, none⟩ = some (.slice s.a2 d.po.length s.c2) ∧ (w5.alloc (.cells #[] 3)).drew.cell? ⟨w.heap.size, 7, none⟩ = some (.slice s.a3 d.fr.length s.c3) ∧ (w5.alloc (.cells #[] 3)).drew.cell? ⟨N, 0, none⟩ = some (.int .i64 2) ∧ (w5.alloc (.cells #[] 3)).drew.cell? ⟨N, 1, none⟩ = some (.int .i64 O) ∧ (w5.alloc (.cells #[] 3)).drew.cell? ⟨N, 2, none⟩ = some (.int .i64 t3) ∧ (w5.alloc (.cells #[] 3)).drew.cell? ⟨N, 3, none⟩ = some (.slice a3 Z.length c3) := ⟨x6.c0, x6.c1, x6.c2, x6.c3, x6.c4, x6.c5, x6.c6, x6.c7, y6.c0, y6.c1, y6.c2, y6.c3⟩
        have B6 : IBuf w5.heap.size (w5.alloc (.cells #[] 3)).drew (some ⟨w5.heap.size, 0, none⟩) 0 0 [] := (J0.ibuf_made (base := w5.heap.size) w5 (Nat.le_refl _)).drew
        have hsz6 : w5.heap.size ≤ (w5.alloc (.cells #[] 3)).drew.heap.size := n6.size
        have ls6 := HL.out _ l6
        go_region_held3 (fun W => W.cell? ⟨w.heap.size, 0, none⟩ = some (.int .i64 d.ino) ∧ W.cell? ⟨w.heap.size, 1, none⟩ = some (.int .i64 d.cl) ∧ W.cell? ⟨w.heap.size, 2, none⟩ = some (.int .i64 d.un) ∧ W.cell? ⟨w.heap.size, 3, none⟩ = some (.string d.rc) ∧ W.cell? ⟨w.heap.size, 4, none⟩ = some (.slice s.a1 d.pg.length s.c1) ∧ W.cell? ⟨w.heap.size, 5, none⟩ = some (.string d.sav) ∧ W.cell? ⟨w.heap.size, 6, none⟩ = some (.slice s.a2 d.po.length s.c2) ∧ W.cell? ⟨w.heap.size, 7, none⟩ = some (.slice s.a3 d.fr.length s.c3) ∧ W.cell? ⟨N, 0, none⟩ = some (.int .i64 2) ∧ W.cell? ⟨N, 1, none⟩ = some (.int .i64 O) ∧ W.cell? ⟨N, 2, none⟩ = some (.int .i64 t3) ∧ W.cell? ⟨N, 3, none⟩ = some (.slice a3 Z.length c3)) (assumption) ((first
          | (go_at_call 26; refine (HHe.out _ (HL.out _ l8).r3).mono ?_; rintro e w9 ⟨a9, c9, rfl, ob9, q9, bb9⟩; have l9 := l8.trans (bb9.mono l8.size); have x9 := x8.below bb9; have y9 := y8.below bb9; have o9 := o8.below bb9; have f9 := f8.own.row.below bb9; have S9 : w9.cell? ⟨w.heap.size, 0, none⟩ = some (.int .i64 d.ino) ∧ w9.cell? ⟨w.heap.size, 1, none⟩ = some (.int .i64 d.cl) ∧ w9.cell? ⟨w.heap.size, 2, none⟩ = some (.int .i64 d.un) ∧ w9.cell? ⟨w.heap.size, 3, none⟩ = some (.string d.rc) ∧ w9.cell? ⟨w.heap.size, 4, none⟩ = some (.slice s.a1 d.pg.length s.c1) ∧ w9.cell? ⟨w.heap.size, 5, none⟩ = some (.string d.sav) ∧ w9.cell? ⟨w.heap.size, 6, none⟩ = some (.slice s.a2 d.po.length s.c2) ∧ w9.cell? ⟨w.heap.size, 7, none⟩ = some (.slice s.a3 d.fr.length s.c3) ∧ w9.cell? ⟨N, 0, none⟩ = some (.int .i64 2) ∧ w9.cell? ⟨N, 1, none⟩ = some (.int .i64 O) ∧ w9.cell? ⟨N, 2, none⟩ = some (.int .i64 t3) ∧ w9.cell? ⟨N, 3, none⟩ = some (.slice a3 Z.length c3) := ⟨x9.c0, x9.c1, x9.c2, x9.c3, x9.c4, x9.c5, x9.c6, x9.c7, y9.c0, y9.c1, y9.c2, y9.c3⟩)
          | (go_at_call 25; refine (HRs.out w9 a8 c8 a9 c9 f9 ob9.row).mono ?_; rintro e w10 ⟨a10, c10, rfl, or10, q10, bb10⟩; have l10 := l9.trans (bb10.mono l9.size); have x10 := x9.below bb10; have y10 := y9.below bb10; have o10 := o9.below bb10; have S10 : w10.cell? ⟨w.heap.size, 0, none⟩ = some (.int .i64 d.ino) ∧ w10.cell? ⟨w.heap.size, 1, none⟩ = some (.int .i64 d.cl) ∧ w10.cell? ⟨w.heap.size, 2, none⟩ = some (.int .i64 d.un) ∧ w10.cell? ⟨w.heap.size, 3, none⟩ = some (.string d.rc) ∧ w10.cell? ⟨w.heap.size, 4, none⟩ = some (.slice s.a1 d.pg.length s.c1) ∧ w10.cell? ⟨w.heap.size, 5, none⟩ = some (.string d.sav) ∧ w10.cell? ⟨w.heap.size, 6, none⟩ = some (.slice s.a2 d.po.length s.c2) ∧ w10.cell? ⟨w.heap.size, 7, none⟩ = some (.slice s.a3 d.fr.length s.c3) ∧ w10.cell? ⟨N, 0, none⟩ = some (.int .i64 2) ∧ w10.cell? ⟨N, 1, none⟩ = some (.int .i64 O) ∧ w10.cell? ⟨N, 2, none⟩ = some (.int .i64 t3) ∧ w10.cell? ⟨N, 3, none⟩ = some (.slice a3 Z.length c3) := ⟨x10.c0, x10.c1, x10.c2, x10.c3, x10.c4, x10.c5, x10.c6, x10.c7, y10.c0, y10.c1, y10.c2, y10.c3⟩)
          | (go_at_call 24; refine (HD.out t3 a3 c3 w10 a10 c10 o10.row or10.row).mono ?_; rintro e w11 ⟨a11, c11, rfl, oz11, q11, bb11⟩; have l11 := l10.trans (bb11.mono l10.size); have x11 := x10.below bb11; have y11 := y10.below bb11; have S11 : w11.cell? ⟨w.heap.size, 0, none⟩ = some (.int .i64 d.ino) ∧ w11.cell? ⟨w.heap.size, 1, none⟩ = some (.int .i64 d.cl) ∧ w11.cell? ⟨w.heap.size, 2, none⟩ = some (.int .i64 d.un) ∧ w11.cell? ⟨w.heap.size, 3, none⟩ = some (.string d.rc) ∧ w11.cell? ⟨w.heap.size, 4, none⟩ = some (.slice s.a1 d.pg.length s.c1) ∧ w11.cell? ⟨w.heap.size, 5, none⟩ = some (.string d.sav) ∧ w11.cell? ⟨w.heap.size, 6, none⟩ = some (.slice s.a2 d.po.length s.c2) ∧ w11.cell? ⟨w.heap.size, 7, none⟩ = some (.slice s.a3 d.fr.length s.c3) ∧ w11.cell? ⟨N, 0, none⟩ = some (.int .i64 2) ∧ w11.cell? ⟨N, 1, none⟩ = some (.int .i64 O) ∧ w11.cell? ⟨N, 2, none⟩ = some (.int .i64 t3) ∧ w11.cell? ⟨N, 3, none⟩ = some (.slice a3 Z.length c3) := ⟨x11.c0, x11.c1, x11.c2, x11.c3, x11.c4, x11.c5, x11.c6, x11.c7, y11.c0, y11.c1, y11.c2, y11.c3⟩)
          | (have f7' := f7; refine SG.step_rows rfl (.tmp 37) (.tmp 39) rfl f7 s.a2 s.c2 d.po (by simp [Act.eval, Act.put]) (by simp [Act.eval, Act.put]) ls7.r2 (by omega) hsz7 ?_; intro a8 c8 w8 f8 b8; have n8 := n7.trans b8; have l8 := l7.trans (b8.mono l5.size); have x8 := x5.below n8; have y8 := y5.below n8; have o8 := o5.below n8; have S8 : w8.cell? ⟨w.heap.size, 0, none⟩ = some (.int .i64 d.ino) ∧ w8.cell? ⟨w.heap.size, 1, none⟩ = some (.int .i64 d.cl) ∧ w8.cell? ⟨w.heap.size, 2, none⟩ = some (.int .i64 d.un) ∧ w8.cell? ⟨w.heap.size, 3, none⟩ = some (.string d.rc) ∧ w8.cell? ⟨w.heap.size, 4, none⟩ = some (.slice s.a1 d.pg.length s.c1) ∧ w8.cell? ⟨w.heap.size, 5, none⟩ = some (.string d.sav) ∧ w8.cell? ⟨w.heap.size, 6, none⟩ = some (.slice s.a2 d.po.length s.c2) ∧ w8.cell? ⟨w.heap.size, 7, none⟩ = some (.slice s.a3 d.fr.length s.c3) ∧ w8.cell? ⟨N, 0, none⟩ = some (.int .i64 2) ∧ w8.cell? ⟨N, 1, none⟩ = some (.int .i64 O) ∧ w8.cell? ⟨N, 2, none⟩ = some (.int .i64 t3) ∧ w8.cell? ⟨N, 3, none⟩ = some (.slice a3 Z.length c3) := ⟨x8.c0, x8.c1, x8.c2, x8.c3, x8.c4, x8.c5, x8.c6, x8.c7, y8.c0, y8.c1, y8.c2, y8.c3⟩)
          | (refine SG.step_rows rfl (.tmp 34) (.tmp 36) rfl B6 s.a1 s.c1 d.pg (by simp [Act.eval, Act.put]) (by simp [Act.eval, Act.put]) ls6.r1 (by omega) hsz6 ?_; intro a7 c7' w7 f7 b7; have n7 := n6.trans b7; have l7 := l6.trans (b7.mono l5.size); have x7 := x5.below n7; have y7 := y5.below n7; have ls7 := HL.out _ l7; have hsz7 := n7.size; have S7 : w7.cell? ⟨w.heap.size, 0, none⟩ = some (.int .i64 d.ino) ∧ w7.cell? ⟨w.heap.size, 1, none⟩ = some (.int .i64 d.cl) ∧ w7.cell? ⟨w.heap.size, 2, none⟩ = some (.int .i64 d.un) ∧ w7.cell? ⟨w.heap.size, 3, none⟩ = some (.string d.rc) ∧ w7.cell? ⟨w.heap.size, 4, none⟩ = some (.slice s.a1 d.pg.length s.c1) ∧ w7.cell? ⟨w.heap.size, 5, none⟩ = some (.string d.sav) ∧ w7.cell? ⟨w.heap.size, 6, none⟩ = some (.slice s.a2 d.po.length s.c2) ∧ w7.cell? ⟨w.heap.size, 7, none⟩ = some (.slice s.a3 d.fr.length s.c3) ∧ w7.cell? ⟨N, 0, none⟩ = some (.int .i64 2) ∧ w7.cell? ⟨N, 1, none⟩ = some (.int .i64 O) ∧ w7.cell? ⟨N, 2, none⟩ = some (.int .i64 t3) ∧ w7.cell? ⟨N, 3, none⟩ = some (.slice a3 Z.length c3) := ⟨x7.c0, x7.c1, x7.c2, x7.c3, x7.c4, x7.c5, x7.c6, x7.c7, y7.c0, y7.c1, y7.c2, y7.c3⟩)))
        all_goals
          go_wp2
          go_ret2
          exact HF.out _ _ ⟨a11, c11, rfl, oz11.mono l10.size, q11, l11⟩
  · have hk' : stOk d mem d.ino 2 = false := by simpa using hk
    obtain ⟨fo, fz⟩ := names_no (d := d) (mem := mem) (es := es) (by rw [hk']; rfl)
    rw [fo, fz]
    have hst' : Hid (∀ W, Lists W d s → Calls Tryz.prog 22 #[N1.val d s, .string mem, .int .i64 2] W fun e w' => ∃ (k o t : Int) (a : Option Addr) (n c : Nat), e = .returned (.tuple #[val k o t a n c, .bool false]) ∧ Below W.heap.size W w') := fun W h => (hst.out W h).mono fun e w' ⟨k, o, t, a, n, c, he, hb, _⟩ => ⟨k, o, t, a, n, c, by rw [he, hk'], hb⟩
    clear hst hk hk' fo fz
    go_enter Tryz.func7, Tryz.ntmps7
    go_wp2_with (first
      | (go_at_call 22; refine (hst'.out _ L0).mono ?_; rintro e w3 ⟨k3, o3, t3, a3, n3, c3, rfl, b3⟩; have l3 := l0.trans (b3.mono l0.size); have l4 := l3.alloc l3.size (.cells #[.int .i64 k3, .int .i64 o3, .int .i64 t3, .slice a3 n3 c3] 49))
      | (go_at_call 23; refine (hpd.out _ (HE.out _ l4)).mono ?_; rintro e w5 ⟨rfl, b5⟩; have l5 := l4.trans (b5.mono l4.size); have l6 := l5.alloc l5.size (.cells #[] 65)))
    go_ret2
    exact SQ.ans_no l6

end Go.Proofs.YtkdjcbmmbjongaaGreat.NN

/- What the exact law over PutNames keeps. -/
namespace Go.Proofs.YtkdjcbmmbjongaaGreat.NP
open Go.ChangeShapes Go.WideShapes Go.ChangeAt Go.RowKit
set_option linter.unusedVariables false
set_option linter.unusedSimpArgs false
set_option maxRecDepth 10000

open N0 (Ln)
open N1 (Sl val vals Lists FitM LB lb_new)
open N3 (total szOk szNo)
open N4 (at3 Cp)
open N12 (A)
open I2 (ints)
open T5 (Mk make_ents mk_new)
open T4 (FitsM sum sum_le ret_int)
open V4 (mText mid grown_below)
open M1 (mt)
open PK (K K')
open N15 (a_grown mark_at)

theorem szFit2 (d : Ln) (s : Sl) (w : World) (hF : FitM d s) (h : total d ≤ 1048576) :
    Calls Tryz.prog 5 #[val d s, .int .i64 1048576] w fun e w' => e = .returned (.int .i64 (1048576 - (total d : Int))) ∧ Below w.heap.size w w' := by
  have hB := K0.below_new w (.cells #[.int .i64 d.ino, .int .i64 d.cl, .int .i64 d.un, .string d.rc, .slice s.a1 d.pg.length s.c1, .string d.sav, .slice s.a2 d.po.length s.c2, .slice s.a3 d.fr.length s.c3] 24)
  have l1 := hF.l1
  have l2 := hF.l2
  have l3 := hF.l3
  unfold total at h
  have e1 : (0 : Int) ≤ 1048576 - (d.rc.size : Int) := by omega
  have g1 : ¬ (1048576 - (d.rc.size : Int) < 0) := by omega
  have g2 : ¬ (1048576 - (d.rc.size : Int) - (d.pg.length : Int) < 0) := by omega
  have g3 : ¬ (1048576 - (d.rc.size : Int) - (d.pg.length : Int) - (d.sav.size : Int) < 0) := by omega
  have g4 : ¬ (1048576 - (d.rc.size : Int) - (d.pg.length : Int) - (d.sav.size : Int) - (d.po.length : Int) < 0) := by omega
  have g5 : ¬ (1048576 - (d.rc.size : Int) - (d.pg.length : Int) - (d.sav.size : Int) - (d.po.length : Int) - (d.fr.length : Int) < 0) := by omega
  go_enter Tryz.func5, Tryz.ntmps5
  go_wp2_with (go_at_call 20; refine (szOk _ _ _ _ _ (by assumption) (by omega) (by omega)).mono ?_; rintro e w' ⟨rfl, rfl⟩)
  go_ret
  exact ⟨ret_int (by unfold total; omega), hB⟩

/-- What is left of a number; -1 where nothing is. -/
def leftL (L : Int) (es : List T0.Ent) : Int := if ((es.length + sum es es.length : Nat) : Int) ≤ L then L - (es.length : Int) - (sum es es.length : Int) else -1

set_option maxHeartbeats 1000000 in
theorem szEntryL (a : Option Addr) (c : Nat) (es : List T0.Ent) (L : Int) (w : World) (hL0 : 0 ≤ L) (hL1 : L ≤ 1048576) (hn : es.length ≤ maxLen) (hfit : FitsM es) (hR : T0.Row w a es) :
    Calls Tryz.prog 6 #[.slice a es.length c, .int .i64 L] w fun e w' => e = .returned (.int .i64 (leftL L es)) ∧ Below w.heap.size w w' := by
  unfold maxLen at hn
  by_cases h1 : L - (es.length : Int) < 0
  · have HR : Hid (leftL L es = -1) := if_neg (by omega)
    go_enter Tryz.func6, Tryz.ntmps6
    go_wp2
    go_ret
    exact ⟨ret_int HR.out.symm, Below.refl _ _⟩
  · go_enter Tryz.func6, Tryz.ntmps6
    go_wp2
    go_loopw [1, 5] (fun l i w' => ∃ k : Nat, k ≤ es.length ∧ i = .int .i64 k ∧ l = .int .i64 (L - (es.length : Int) - (sum es k : Int)) ∧ ((es.length + sum es k : Nat) : Int) ≤ L ∧ Below w.heap.size w w') (fun _ i _ => es.length - (intOf i).toNat)
    case atStart => exact ⟨0, Nat.zero_le _, rfl, by simp [sum], by simp [sum]; omega, Below.refl _ _⟩
    case round =>
      obtain ⟨k, hk, rfl, rfl, hs, hbel⟩ := hrel
      have hB := hbel.size
      by_cases hlt : k < es.length
      · obtain ⟨b, off, rfl, hlt0, hc⟩ := (hR.below hbel).get hlt
        have y1 := (hc k hlt).1
        have y2 := (hc k hlt).2
        have hf := hfit k hlt
        have hsum : sum es (k + 1) = sum es k + (T0.ent es k).2.size := rfl
        obtain ⟨z, ez⟩ : ∃ z, T0.ent es k = z := ⟨_, rfl⟩
        rw [ez] at y1 y2 hf hsum
        obtain ⟨u, v⟩ := z
        simp only at y1 y2 hf hsum
        have e1 : (0 : Int) ≤ (k : Int) := by omega
        have e2 : (k : Int) < (es.length : Int) := by omega
        have hsz : Hid (∀ W, Calls Tryz.prog 21 #[.agg #[.int .i64 u, .string v], .int .i64 (L - (es.length : Int) - (sum es k : Int))] W fun e w' => e = .returned (.int .i64 (E3.sz v (L - (es.length : Int) - (sum es k : Int)))) ∧ Below W.heap.size W w') := fun W => E3.szEntry u v _ W hf (by omega) (by omega)
        clear ez hc hfit hR
        by_cases h2 : ((es.length + sum es (k + 1) : Nat) : Int) ≤ L
        · have hz : E3.sz v (L - (es.length : Int) - (sum es k : Int)) = L - (es.length : Int) - (sum es (k + 1) : Int) := by rw [E3.sz, if_neg (by omega)]; omega
          rw [hz] at hsz
          have h3 : ¬ L - (es.length : Int) - (sum es (k + 1) : Int) < 0 := by omega
          clear hz hsum
          go_wp2_with (go_at_call 21; refine (hsz.out _).mono ?_; rintro e w1 ⟨rfl, b1⟩)
          go_roundw
          case rel => exact ⟨k + 1, by omega, by go_num, rfl, h2, hbel.trans (b1.mono hB)⟩
          case measure => simp [intOf]; omega
        · have hz : E3.sz v (L - (es.length : Int) - (sum es k : Int)) = -1 := by rw [E3.sz, if_pos (by omega)]
          rw [hz] at hsz
          have hge := sum_le (es := es) (k := k + 1) (n := es.length) (by omega)
          have HR : Hid (leftL L es = -1) := if_neg (by omega)
          clear hz hsum
          go_wp2_with (go_at_call 21; refine (hsz.out _).mono ?_; rintro e w1 ⟨rfl, b1⟩)
          go_ret
          exact ⟨ret_int HR.out.symm, hbel.trans (b1.mono hB)⟩
      · obtain rfl : k = es.length := by omega
        have HR : Hid (leftL L es = L - (es.length : Int) - (sum es es.length : Int)) := if_pos hs
        clear hR hfit
        go_wp2
        go_ret
        exact ⟨ret_int HR.out.symm, hbel⟩
set_option maxHeartbeats 1000000 in
theorem toEntry2 (a : Option Addr) (c : Nat) (es : List T0.Ent) (w : World) (hn : es.length ≤ 1048576) (hR : T0.Row w a es) :
    Calls Tryz.prog 9 #[.slice a es.length c] w fun e w' => ∃ g, e = .returned (.slice (some ⟨g, 0, none⟩) es.length es.length) ∧ w.heap.size ≤ g ∧ Mk g es.length es es.length w' ∧ Below w.heap.size w w' := by
  obtain ⟨C, hC, hmk⟩ := make_ents es.length hn
  have hmk0 := hmk w
  have m0 := mk_new (es := es) w C hC
  have l0 := K0.below_new w (.cells C 57)
  obtain ⟨W0, hW0⟩ : ∃ W0, w.alloc (.cells C 57) = W0 := ⟨_, rfl⟩
  rw [hW0] at m0 l0 hmk0
  clear hmk hW0
  go_enter Tryz.func9, Tryz.ntmps9
  go_wp2
  go_loopw [4] (fun i w' => ∃ k : Nat, k ≤ es.length ∧ i = .int .i64 k ∧ Mk w.heap.size es.length es k w' ∧ Below w.heap.size w w') (fun i _ => es.length - (intOf i).toNat)
  case atStart => exact ⟨0, Nat.zero_le _, rfl, m0, l0⟩
  case round =>
    obtain ⟨k, hk, rfl, hmk, hbel⟩ := hrel
    clear m0 l0 hmk0
    by_cases hlt : k < es.length
    · obtain ⟨b, off, rfl, hlt0, hc⟩ := (hR.below hbel).get hlt
      have y1 := (hc k hlt).1
      have y2 := (hc k hlt).2
      obtain ⟨z, ez⟩ : ∃ z, T0.ent es k = z := ⟨_, rfl⟩
      rw [ez] at y1 y2
      obtain ⟨u, v⟩ := z
      simp only at y1 y2
      have HE : Hid (T0.ent es k = (u, v)) := ez
      have e1 : (0 : Int) ≤ (k : Int) := by omega
      have e2 : (k : Int) < (es.length : Int) := by omega
      have hB := hbel.size
      clear ez hc hR
      go_wp2_with (go_at_call 28; refine (E3.toEntry u v _).mono ?_; rintro e w1 ⟨rfl, b1⟩; have m1 := hmk.below b1; obtain ⟨x1, q1⟩ := Option.isSome_iff_exists.1 (m1.there (k * 2) (by omega)); obtain ⟨x2, q2⟩ := Option.isSome_iff_exists.1 (m1.there (k * 2 + 1) (by omega)); have q3 := m1.free (k * 2) (by omega); have q4 := m1.free (k * 2 + 1) (by omega))
      go_roundw
      case rel => exact ⟨k + 1, by omega, by go_num, m1.step hlt HE.out, ((hbel.trans (b1.mono hB)).setCell (p := ⟨w.heap.size, k * 2, none⟩) (Nat.le_refl _) _).setCell (p := ⟨w.heap.size, k * 2 + 1, none⟩) (Nat.le_refl _) _⟩
      case measure => simp [intOf]; omega
    · obtain rfl : k = es.length := by omega
      have HMK : Hid (Mk w.heap.size es.length es es.length wr) := hmk
      clear hR hmk
      go_wp2
      go_ret
      exact ⟨_, rfl, Nat.le_refl _, HMK.out, hbel⟩

/-- The marks of a row of entries, from a number on. -/
def emK (k0 n : Nat) : List T0.Ent := (List.range n).map fun (j : Nat) => (((k0 + 2 * j : Nat) : Int), mt (k0 + 1 + 2 * j))

theorem emK_length (k0 n : Nat) : (emK k0 n).length = n := by simp [emK]
theorem emK_get (k0 n j : Nat) (h : j < n) : T0.ent (emK k0 n) j = (((k0 + 2 * j : Nat) : Int), mt (k0 + 1 + 2 * j)) := by
  rw [T0.ent_get _ _ (by rw [emK_length]; exact h)]
  simp [emK]

set_option maxHeartbeats 1000000 in
theorem markEntryK (g c n k0 : Nat) (w : World) (hn : n ≤ 1048576) (hk0 : k0 ≤ 1099511627776) (hb : Mk g n (emK k0 n) 0 w) :
    Calls Tryz.prog 15 #[.slice (some ⟨g, 0, none⟩) n c, .int .i64 (k0 : Int)] w fun e w' => e = .returned (.int .i64 ((k0 + 2 * n : Nat) : Int)) ∧ Mk g n (emK k0 n) n w' ∧ w.grownBy w' (some g) := by
  go_enter Tryz.func15, Tryz.ntmps15
  go_wp2
  go_loopw [1, 5] (fun q i w' => ∃ k : Nat, k ≤ n ∧ i = .int .i64 k ∧ q = .int .i64 ((k0 + 2 * k : Nat) : Int) ∧ Mk g n (emK k0 n) k w' ∧ w.grownBy w' (some g)) (fun _ i _ => n - (intOf i).toNat)
  case atStart => exact ⟨0, Nat.zero_le _, rfl, rfl, hb, M0.grown_refl _ _⟩
  case round =>
    obtain ⟨k, hk, rfl, rfl, hmk, hgr⟩ := hrel
    by_cases hlt : k < n
    · have e1 : (0 : Int) ≤ (k : Int) := by omega
      have e2 : (k : Int) < (n : Int) := by omega
      obtain ⟨x1, q1⟩ := Option.isSome_iff_exists.1 (hmk.there (k * 2) (by omega))
      have q3 := hmk.free (k * 2) (by omega)
      have HM : Hid (Mk g n (emK k0 n) k wr) := hmk
      clear hmk hb
      go_wp2_with (go_at_call 39; refine (mText _ (k0 + 1 + 2 * k) (by push_cast; omega) (by omega) (by omega) _).mono ?_; rintro e w4 ⟨rfl, b4⟩; obtain ⟨⟨x2, q2⟩, q4, HN⟩ := mid HM.out hlt (emK_get k0 n k hlt) b4)
      go_roundw
      case rel => exact ⟨k + 1, by omega, by go_num, by go_num, HN.out, M0.grown_set (grown_below (M0.grown_set hgr _) b4) _⟩
      case measure => simp [intOf]; omega
    · obtain rfl : k = n := by omega
      clear hb
      go_wp2
      go_ret
      exact ⟨rfl, hmk, hgr⟩

variable {w W W' : World} {d : Ln} {s : Sl} {f1 f2 f3 B B2 : Nat} {v1 v2 v3 : List Value} {aw ag : Option Addr} {Z M X : List T0.Ent}

set_option maxHeartbeats 2000000 in
theorem markLoan2 (hR : Lists w d s) (hp : d.pg.length ≤ 1048576) (ho : d.po.length ≤ 1048576) (hf : d.fr.length ≤ 1048576) (h : K w d s f1 f2 f3 B B2 v1 v2 v3 aw ag Z M W) (hx : Mk B2 X.length X X.length W) :
    Calls Tryz.prog 14 #[val d (at3 d f1 f2 f3), .int .i64 1] W fun e w' => (∃ q : Nat, q ≤ 1099511627776 ∧ e = .returned (.int .i64 (q : Int))) ∧ K' w d s f1 f2 f3 B2 aw ag Z M w' ∧ Mk B2 X.length X X.length w' := by
  have h0 := h.below (K0.below_new W (.cells #[.int .i64 d.ino, .int .i64 d.cl, .int .i64 d.un, .string d.rc, .slice (at3 d f1 f2 f3).a1 d.pg.length (at3 d f1 f2 f3).c1, .string d.sav, .slice (at3 d f1 f2 f3).a2 d.po.length (at3 d f1 f2 f3).c2, .slice (at3 d f1 f2 f3).a3 d.fr.length (at3 d f1 f2 f3).c3] 31))
  have bx := lb_new d (at3 d f1 f2 f3) W 31
  have hlo := h.lo
  have hle2 := h.le2
  have hBlt := h.n.b.lt
  have k0 : K' w d s f1 f2 f3 B2 aw ag Z M _ := ⟨h0.a, h0.rows, by have := h0.lo; have := h0.le2; omega⟩
  have m1 := R5.markAny f1 d.pg.length v1 1 _ (by rw [h0.k1.1]; exact hp) (by omega) h0.k1.2
  rw [h0.k1.1] at m1
  have K2 := h0.k2
  have K3 := h0.k3
  have hx0 := hx.below (K0.below_new W (.cells #[.int .i64 d.ino, .int .i64 d.cl, .int .i64 d.un, .string d.rc, .slice (at3 d f1 f2 f3).a1 d.pg.length (at3 d f1 f2 f3).c1, .string d.sav, .slice (at3 d f1 f2 f3).a2 d.po.length (at3 d f1 f2 f3).c2, .slice (at3 d f1 f2 f3).a3 d.fr.length (at3 d f1 f2 f3).c3] 31))
  clear h h0 hx
  go_enter Tryz.func14, Tryz.ntmps14
  go_wp2_with (first
    | (go_at_call 38; have hg2' := hg2; refine (mark_at (k := 1 + d.pg.length + d.po.length) (c := d.fr.length) k32 hf (by omega)).mono ?_; rintro e w3 ⟨rfl, hg3⟩; have hx3 := V4.mk_grown hx2 hg3 (by omega); have k3 := k2.grown hR hg3 (by omega) (by omega))
    | (go_at_call 38; have hg1' := hg1; refine (mark_at (k := 1 + d.pg.length) (c := d.po.length) k21 ho (by omega)).mono ?_; rintro e w2 ⟨rfl, hg2⟩; have hx2 := V4.mk_grown hx1 hg2 (by omega); have k2 := k1.grown hR hg2 (by omega) (by omega); have k32 : v3.length = d.fr.length ∧ K0.Blk f3 v3 w2 := ⟨k31.1, M0.blk_grown k31.2 hg2 (by omega)⟩; have b2 : LB W.heap.size d (at3 d f1 f2 f3) w2 := ⟨M0.blk_grown b1.b hg2 (by omega)⟩; have c7 := b2.c7)
    | (go_at_call 38; refine m1.mono ?_; rintro e w1 ⟨rfl, hg1⟩; have hx1 := V4.mk_grown hx0 hg1 (by omega); have k1 := k0.grown hR hg1 (by omega) (by omega); have k21 : v2.length = d.po.length ∧ K0.Blk f2 v2 w1 := ⟨K2.1, M0.blk_grown K2.2 hg1 (by omega)⟩; have k31 : v3.length = d.fr.length ∧ K0.Blk f3 v3 w1 := ⟨K3.1, M0.blk_grown K3.2 hg1 (by omega)⟩; have b1 : LB W.heap.size d (at3 d f1 f2 f3) w1 := ⟨M0.blk_grown bx.b hg1 (by omega)⟩; have c6 := b1.c6))
  go_ret
  exact ⟨⟨1 + d.pg.length + d.po.length + d.fr.length, by omega, rfl⟩, k3, hx3⟩

theorem grown2 {g : Nat} (h : K' w d s f1 f2 f3 g aw ag Z M W) (hR : Lists w d s) (hg : W.grownBy W' (some g)) : K' w d s f1 f2 f3 g aw ag Z M W' :=
  ⟨a_grown h.a hR hg (by have := h.lo; omega), h.rows.imp id fun ⟨g1, g2, e1, e2, l1, l2, l3, b1, b2⟩ => ⟨g1, g2, e1, e2, l1, l2, l3, V4.mk_grown b1 hg (by have := h.lo; omega), V4.mk_grown b2 hg (by omega)⟩, h.lo⟩

theorem mark_x {cg k0 : Nat} (hR : Lists w d s) (hk0 : k0 ≤ 1099511627776) (hN : X.length ≤ 1048576) (h : K' w d s f1 f2 f3 B2 aw ag Z M W) (hx : Mk B2 X.length X X.length W) :
    Calls Tryz.prog 15 #[.slice (some ⟨B2, 0, none⟩) X.length cg, .int .i64 (k0 : Int)] W fun e w' => (∃ q : Nat, e = .returned (.int .i64 (q : Int))) ∧ K' w d s f1 f2 f3 B2 aw ag Z M w' :=
  (markEntryK B2 cg X.length k0 W hN hk0 (V5.start hx)).mono fun _ _ ⟨he, _, hg⟩ => ⟨⟨_, he⟩, grown2 h hR hg⟩
end Go.Proofs.YtkdjcbmmbjongaaGreat.NP
