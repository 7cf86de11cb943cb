/- Joined texts: plain facts and contracts, as each part says. -/
import Derived.Test.YtkdjcbmmbjongaaGreatJnL
import Derived.Deep.RegionHeld3
import Derived.RegionTactic
import Derived.Test.YtkdjcbmmbjongaaGreatJnO
import Derived.Test.YtkdjcbmmbjongaaGreatJnI

/- The contract of impl.Load, as the given laws call it. -/
namespace Go.Proofs.YtkdjcbmmbjongaaGreat.O2
open Go.ChangeShapes Go.WideShapes Go.ChangeAt Go.RowKit
set_option linter.unusedVariables false
set_option linter.unusedSimpArgs false
set_option maxRecDepth 10000

open I0 (val vals)

/-- What Load answers. -/
def Ans (mem : ByteArray) (i : Int) (w : World) (e : Ending) (w' : World) : Prop :=
  ∃ a c, e = .returned (.tuple #[val (O0.lK mem i) (O0.lO mem i) (O0.lS mem i) a (O0.lZ mem i).length c, .string (O0.lD mem i), .bool (O0.isL mem i)]) ∧ J0.Own w.heap.size w' a (O0.lZ mem i) ∧ (O0.lZ mem i).length ≤ c ∧ Below w.heap.size w w'

theorem ans_no {mem : ByteArray} {i : Int} {w w' : World} (h : O0.isL mem i = false) (hb : Below w.heap.size w w') : Ans mem i w (.returned (.tuple #[val 0 0 0 none 0 0, .string ⟨#[]⟩, .bool false])) w' := by
  obtain ⟨h1, h2, h3, h4, h5⟩ := O0.l_no h
  exact ⟨none, 0, by rw [h1, h2, h3, h4, h5, h]; rfl, by rw [h4]; exact Or.inl rfl, by rw [h4]; exact Nat.le_refl _, hb⟩

theorem ans_yes {mem : ByteArray} {i : Int} {w w' : World} {a : Option Addr} {c : Nat} (h : O0.isL mem i = true) (ho : J0.Own w.heap.size w' a (G0.gZ (O0.recd mem i))) (hc : (G0.gZ (O0.recd mem i)).length ≤ c) (hb : Below w.heap.size w w') :
    Ans mem i w (.returned (.tuple #[val (G0.gK (O0.recd mem i)) (G0.gO (O0.recd mem i)) (G0.gS (O0.recd mem i)) a (G0.gZ (O0.recd mem i)).length c, .string ((O0.joined mem (G0.gZ (O0.recd mem i)) (G0.gZ (O0.recd mem i)).length).extract 0 (G0.gS (O0.recd mem i)).toNat), .bool true])) w' := by
  obtain ⟨h1, h2, h3, h4, h5⟩ := O0.l_yes h
  exact ⟨a, c, by rw [h1, h2, h3, h4, h5, h], by rw [h4]; exact ho, by rw [h4]; exact hc, hb⟩

/-- The record, read, where it is none's. -/
theorem read_yes {s : ByteArray} {W : World} (hs : s.size ≤ 281474976710656) (h : G0.isI s = true) {v : Value → Value} (hv : ∀ x, I1.rec (B1.byteAt s 0) x = v x) :
    Calls Tryz.prog 90 #[.string s] W fun e w' => ∃ a c, e = .returned (.tuple #[v (val (G0.gK s) (G0.gO s) (G0.gS s) a (G0.gZ s).length c), .bool true]) ∧ J0.Own W.heap.size w' a (G0.gZ s) ∧ (G0.gZ s).length ≤ c ∧ Below W.heap.size W w' := by
  obtain ⟨e1, e2, e3, e4⟩ := G0.g_yes h
  rw [e1, e2, e3, e4]
  exact G3.read_yes hs h hv

/-- The answer's block and the inode's own. -/
structure Ls (w : World) (B : Nat) (k o s : Int) (a : Option Addr) (zs : List Int) (c : Nat) (W : World) : Prop where
  rs : G3.Rs w a zs W
  nb : K0.Blk B (vals k o s a zs.length c) W
  ne : w.heap.size < B

variable {w W W' : World} {B : Nat} {k o s : Int} {a : Option Addr} {zs : List Int} {c : Nat}

theorem Ls.below (h : Ls w B k o s a zs c W) (hb : Below W.heap.size W W') : Ls w B k o s a zs c W' := ⟨h.rs.below hb, h.nb.below hb, h.ne⟩
theorem Ls.drew (h : Ls w B k o s a zs c W) : Ls w B k o s a zs c W.drew := ⟨⟨h.rs.res.drew, h.rs.own.drew, h.rs.bel.drew⟩, h.nb.drew, h.ne⟩
theorem ls_new (h : G3.Rs w a zs W) : Ls w W.heap.size k o s a zs c (W.alloc (.cells #[.int .i64 k, .int .i64 o, .int .i64 s, .slice a zs.length c] 49)) :=
  ⟨h.below (K0.below_new _ _), K0.blk_new (vals k o s a zs.length c) W 49, h.res.lt⟩

set_option maxHeartbeats 2000000 in
theorem load_kind (T : TypeId) (mem : ByteArray) (i : Int) (w : World) (hm : mem.size = 768) (hI : G0.isI (O0.recd mem i) = true) (hL : O0.isL mem i = true)
    (hT : ∀ x, I1.rec (B1.byteAt (O0.recd mem i) 0) x = .iface T x)
    (hF : ∀ k o s a n c W, Calls Tryz.prog 91 #[.iface T (val k o s a n c)] W fun e w' => e = .returned (.bool false) ∧ Below W.heap.size W w')
    (hO : ∀ k o s a n c W, Calls Tryz.prog 92 #[.iface T (val k o s a n c)] W fun e w' => e = .returned (val k o s a n c) ∧ Below W.heap.size W w') :
    Calls Tryz.prog 68 #[.string mem, .int .i64 i] w (Ans mem i w) := by
  have hms : mem.size ≤ 281474976710656 := by omega
  have g8 : ((mem.size : Int) != 768) = false := by simp; omega
  have hrs := O0.recd_size mem i hms
  have hg := O0.got hI
  have HF : Hid (∀ a c w', J0.Own w.heap.size w' a (G0.gZ (O0.recd mem i)) → (G0.gZ (O0.recd mem i)).length ≤ c → Below w.heap.size w w' → Ans mem i w (.returned (.tuple #[val (G0.gK (O0.recd mem i)) (G0.gO (O0.recd mem i)) (G0.gS (O0.recd mem i)) a (G0.gZ (O0.recd mem i)).length c, .string ((O0.joined mem (G0.gZ (O0.recd mem i)) (G0.gZ (O0.recd mem i)).length).extract 0 (G0.gS (O0.recd mem i)).toNat), .bool true])) w') := fun a c w' => ans_yes hL
  have hr : Hid (∀ W, Calls Tryz.prog 90 #[.string (O0.recd mem i)] W fun e w' => ∃ a c, e = .returned (.tuple #[.iface T (val (G0.gK (O0.recd mem i)) (G0.gO (O0.recd mem i)) (G0.gS (O0.recd mem i)) a (G0.gZ (O0.recd mem i)).length c), .bool true]) ∧ J0.Own W.heap.size w' a (G0.gZ (O0.recd mem i)) ∧ (G0.gZ (O0.recd mem i)).length ≤ c ∧ Below W.heap.size W w') := fun W => read_yes hrs hI hT
  have hpt : Hid (∀ W, Calls Tryz.prog 81 #[.string mem, .int .i64 (L1.recAt i), .int .i64 16] W fun e w' => e = .returned (.string (O0.recd mem i)) ∧ Below W.heap.size W w') := fun W => B2.impl_Part _ _ _ _ hms
  have hFF : Hid (∀ k o s a n c W, Calls Tryz.prog 91 #[.iface T (val k o s a n c)] W fun e w' => e = .returned (.bool false) ∧ Below W.heap.size W w') := hF
  have hOO : Hid (∀ k o s a n c W, Calls Tryz.prog 92 #[.iface T (val k o s a n c)] W fun e w' => e = .returned (val k o s a n c) ∧ Below W.heap.size W w') := hO
  clear hT hI hL hrs hF hO
  obtain ⟨R, hR⟩ : ∃ R, O0.recd mem i = R := ⟨_, rfl⟩
  rw [hR] at hg HF hr hpt
  obtain ⟨K, hK⟩ : ∃ K, G0.gK R = K := ⟨_, rfl⟩
  obtain ⟨O, hO⟩ : ∃ O, G0.gO R = O := ⟨_, rfl⟩
  obtain ⟨S, hS⟩ : ∃ S, G0.gS R = S := ⟨_, rfl⟩
  obtain ⟨Z, hZ⟩ : ∃ Z, G0.gZ R = Z := ⟨_, rfl⟩
  rw [hK, hO, hS, hZ] at HF hr
  rw [hK, hS, hZ] at hg
  obtain ⟨⟨s0, s1⟩, zl, s2, hp, -⟩ := hg
  clear hK hO hS hZ hR
  have hl0 := K0.below_new w (.cells #[.int .i64 0, .int .i64 0, .int .i64 0, .slice none 0 0] 49)
  go_enter Tryz.func68, Tryz.ntmps68
  go_wp2_with (first
    | (go_at_call 62; refine (L1.impl_RecAt _ _).mono ?_; rintro e w' ⟨rfl, rfl⟩)
    | (go_at_call 81; refine (hpt.out _).mono ?_; rintro e w1 ⟨rfl, b1⟩)
    | (go_at_call 90; refine (hr.out _).mono ?_; rintro e w2 ⟨a, c, rfl, ho, hc, b2⟩; have r2 : G3.Rs w a Z w2 := G3.rs_new (b1.trans (b2.mono b1.size)) (ho.mono b1.size))
    | (go_at_call 91; refine (hFF.out _ _ _ _ _ _ _).mono ?_; rintro e w3 ⟨rfl, b3⟩; have r3 := r2.below b3)
    | (go_at_call 92; refine (hOO.out _ _ _ _ _ _ _).mono ?_; rintro e w4 ⟨rfl, b4⟩; have r4 := r3.below b4; have l4 := ls_new (k := K) (o := O) (s := S) (c := c) r4))
  have l5 := l4.drew
  have hRd : P0.Row (w4.alloc (.cells #[.int .i64 K, .int .i64 O, .int .i64 S, .slice a Z.length c] 49)).drew a Z := l5.rs.own.row
  go_region_with ((go_at_call 93; refine (O1.dataOf mem _ _ _ _ _ Z _ hm hp zl s0 s2 hRd).mono ?_; rintro e w5 ⟨rfl, b5⟩; have l6 := l5.below b5; have x0 := l6.nb.c0; have x1 := l6.nb.c1; have x2 := l6.nb.c2; have x3 := l6.nb.c3; have c0 := l6.rs.res.c0; have c1 := l6.rs.res.c1; have c2 := l6.rs.res.c2; have c3 := l6.rs.res.c3; have f0 := l6.rs.res.f0; have f1 := l6.rs.res.f1; have f2 := l6.rs.res.f2; have f3 := l6.rs.res.f3))
  all_goals
    have q := l6.rs.res.put4 (.int .i64 K) (.int .i64 O) (.int .i64 S) (.slice a Z.length c)
    have d := l6.rs.done (.int .i64 K) (.int .i64 O) (.int .i64 S) (.slice a Z.length c)
    go_wp2
    exact bodyPost_ret (v := .tuple #[val K O S a Z.length c, .string ((O0.joined mem Z Z.length).extract 0 S.toNat), .bool true]) (by simp [results, Tryz.results68, go_sem, q.c0, q.c1, q.c2, q.c3]) rfl (HF.out _ _ _ d.1 hc d.2)
end Go.Proofs.YtkdjcbmmbjongaaGreat.O2

/- The contracts of impl.Load and spec.Load, as the given laws call them. -/
namespace Go.Proofs.YtkdjcbmmbjongaaGreat.O3
open Go.ChangeShapes Go.WideShapes Go.ChangeAt Go.RowKit
set_option linter.unusedVariables false
set_option linter.unusedSimpArgs false
set_option maxRecDepth 10000

open I0 (val vals)
open O2 (Ans ans_no ans_yes)

set_option maxHeartbeats 2000000 in
theorem impl_Load (mem : ByteArray) (i : Int) (w : World) (hms : mem.size ≤ 281474976710656) : Calls Tryz.prog 68 #[.string mem, .int .i64 i] w (Ans mem i w) := by
  have hrs := O0.recd_size mem i hms
  have hpt : Hid (∀ W, Calls Tryz.prog 81 #[.string mem, .int .i64 (L1.recAt i), .int .i64 16] W fun e w' => e = .returned (.string (O0.recd mem i)) ∧ Below W.heap.size W w') := fun W => B2.impl_Part _ _ _ _ hms
  have hl0 := K0.below_new w (.cells #[.int .i64 0, .int .i64 0, .int .i64 0, .slice none 0 0] 49)
  by_cases hm : mem.size = 768
  · have g8 : ((mem.size : Int) != 768) = false := by simp; omega
    by_cases hI : G0.isI (O0.recd mem i) = true
    · by_cases h0 : B1.byteAt (O0.recd mem i) 0 = 0
      · have HF : Hid (∀ w', Below w.heap.size w w' → Ans mem i w (.returned (.tuple #[val 0 0 0 none 0 0, .string ⟨#[]⟩, .bool false])) w') := fun w' => ans_no (O0.isL_free h0)
        have hr : Hid (∀ W, Calls Tryz.prog 90 #[.string (O0.recd mem i)] W fun e w' => ∃ a c, e = .returned (.tuple #[.iface 132 (val (G0.gK (O0.recd mem i)) (G0.gO (O0.recd mem i)) (G0.gS (O0.recd mem i)) a (G0.gZ (O0.recd mem i)).length c), .bool true]) ∧ J0.Own W.heap.size w' a (G0.gZ (O0.recd mem i)) ∧ (G0.gZ (O0.recd mem i)).length ≤ c ∧ Below W.heap.size W w') := fun W => O2.read_yes hrs hI (fun x => by rw [I1.rec, if_pos h0])
        clear hI h0
        go_enter Tryz.func68, Tryz.ntmps68
        go_wp2_with (first
          | (go_at_call 62; refine (L1.impl_RecAt _ _).mono ?_; rintro e w' ⟨rfl, rfl⟩)
          | (go_at_call 81; refine (hpt.out _).mono ?_; rintro e w1 ⟨rfl, b1⟩)
          | (go_at_call 90; refine (hr.out _).mono ?_; rintro e w2 ⟨a, c, rfl, ho, hc, b2⟩; have r2 : G3.Rs w a _ w2 := G3.rs_new (b1.trans (b2.mono b1.size)) (ho.mono b1.size))
          | (go_at_call 91; refine (G1.isFree0 _ _ _ _ _ _ _ rfl _).mono ?_; rintro e w3 ⟨rfl, b3⟩; have r3 := r2.below b3; have c0 := r3.res.c0; have c1 := r3.res.c1; have c2 := r3.res.c2; have c3 := r3.res.c3; have f0 := r3.res.f0; have f1 := r3.res.f1; have f2 := r3.res.f2; have f3 := r3.res.f3))
        have q := r3.res.put4 (.int .i64 0) (.int .i64 0) (.int .i64 0) (.slice none 0 0)
        have d := r3.done (.int .i64 0) (.int .i64 0) (.int .i64 0) (.slice none 0 0)
        exact bodyPost_ret (v := .tuple #[val 0 0 0 none 0 0, .string ⟨#[]⟩, .bool false]) (by simp [results, Tryz.results68, go_sem, q.c0, q.c1, q.c2, q.c3]) rfl (HF.out _ d.2)
      · have hL := O0.isL_of hm hI h0
        by_cases h1 : B1.byteAt (O0.recd mem i) 0 = 1
        · exact O2.load_kind 134 mem i w hm hI hL (fun x => by rw [I1.rec, if_neg h0, if_pos h1]) (fun k o s a n c W => G1.isFree1 _ k o s a n c rfl W) (fun k o s a n c W => G1.inodeOf1 k o s a n c W)
        · have h2 : B1.byteAt (O0.recd mem i) 0 = 2 := by
            have := R0.ok_bounds (G0.isI_ok hI).2.2
            omega
          exact O2.load_kind 136 mem i w hm hI hL (fun x => by rw [I1.rec, if_neg h0, if_neg h1, if_pos h2]) (fun k o s a n c W => G1.isFree2 _ k o s a n c rfl W) (fun k o s a n c W => G1.inodeOf2 k o s a n c W)
    · have hI' : G0.isI (O0.recd mem i) = false := by simpa using hI
      have HF : Hid (∀ w', Below w.heap.size w w' → Ans mem i w (.returned (.tuple #[val 0 0 0 none 0 0, .string ⟨#[]⟩, .bool false])) w') := fun w' => ans_no (O0.isL_rec hI')
      have hr : Hid (∀ W, Calls Tryz.prog 90 #[.string (O0.recd mem i)] W fun e w' => e = .returned (.tuple #[.nilIface, .bool false]) ∧ Below W.heap.size W w') := fun W => G3.read_no hrs hI'
      clear hI hI'
      go_enter Tryz.func68, Tryz.ntmps68
      go_wp2_with (first
        | (go_at_call 62; refine (L1.impl_RecAt _ _).mono ?_; rintro e w' ⟨rfl, rfl⟩)
        | (go_at_call 81; refine (hpt.out _).mono ?_; rintro e w1 ⟨rfl, b1⟩)
        | (go_at_call 90; refine (hr.out _).mono ?_; rintro e w2 ⟨rfl, b2⟩; have r2 : G3.Rs w none [] w2 := G3.rs_new (b1.trans (b2.mono b1.size)) (Or.inl rfl); have c0 := r2.res.c0; have c1 := r2.res.c1; have c2 := r2.res.c2; have c3 := r2.res.c3; have f0 := r2.res.f0; have f1 := r2.res.f1; have f2 := r2.res.f2; have f3 := r2.res.f3))
      have q := r2.res.put4 (.int .i64 0) (.int .i64 0) (.int .i64 0) (.slice none 0 0)
      have d := r2.done (.int .i64 0) (.int .i64 0) (.int .i64 0) (.slice none 0 0)
      exact bodyPost_ret (v := .tuple #[val 0 0 0 none 0 0, .string ⟨#[]⟩, .bool false]) (by simp [results, Tryz.results68, go_sem, q.c0, q.c1, q.c2, q.c3]) rfl (HF.out _ d.2)
  · have g8 : ((mem.size : Int) != 768) = true := by simp; omega
    have HF : Hid (∀ w', Below w.heap.size w w' → Ans mem i w (.returned (.tuple #[val 0 0 0 none 0 0, .string ⟨#[]⟩, .bool false])) w') := fun w' => ans_no (O0.isL_size hm)
    go_enter Tryz.func68, Tryz.ntmps68
    go_wp2
    refine bodyPost_ret (v := .tuple #[val 0 0 0 none 0 0, .string ⟨#[]⟩, .bool false]) (by simp [results, Tryz.results68, go_sem]) rfl (HF.out _ ?_)
    go_grown

open O2 (Ls ls_new)

set_option maxHeartbeats 4000000 in
theorem spec_Load (mem : ByteArray) (i : Int) (w : World) (hms : mem.size ≤ 281474976710656) : Calls Tryz.prog 66 #[.string mem, .int .i64 i] w (Ans mem i w) := by
  have hrs := O0.recd_size mem i hms
  have hG : Hid (∀ W, Calls Tryz.prog 43 #[.string (O0.recd mem i)] W (G3.Ans (O0.recd mem i) W)) := fun W => G4.spec_GetInode _ _ hrs
  have hRc : Hid (∀ W, Calls Tryz.prog 44 #[.string mem, .int .i64 i] W fun e w' => e = .returned (.string (O0.recd mem i)) ∧ w' = W) := fun W => O1.l03Rec mem i W hms
  by_cases hL : O0.isL mem i = true
  · have hl := hL
    simp only [O0.isL, Bool.and_eq_true, decide_eq_true_eq, Bool.not_eq_true'] at hl
    obtain ⟨hm, hI, hk⟩ := hl
    have hk' : ¬ B1.byteAt (O0.recd mem i) 0 = 0 := of_decide_eq_false hk
    have g8 : ((mem.size : Int) != 768) = false := by simp; omega
    have hg := O0.got hI
    have hK0 : (G0.gK (O0.recd mem i) == 0) = false := by
      rw [(G0.g_yes hI).1]
      simpa using hk'
    have HF : Hid (∀ a c w', J0.Own w.heap.size w' a (G0.gZ (O0.recd mem i)) → (G0.gZ (O0.recd mem i)).length ≤ c → Below w.heap.size w w' → Ans mem i w (.returned (.tuple #[val (G0.gK (O0.recd mem i)) (G0.gO (O0.recd mem i)) (G0.gS (O0.recd mem i)) a (G0.gZ (O0.recd mem i)).length c, .string ((O0.joined mem (G0.gZ (O0.recd mem i)) (G0.gZ (O0.recd mem i)).length).extract 0 (G0.gS (O0.recd mem i)).toNat), .bool true])) w') := fun a c w' => ans_yes hL
    have hA : Hid (∀ W e w', G3.Ans (O0.recd mem i) W e w' → ∃ a c, e = .returned (.tuple #[val (G0.gK (O0.recd mem i)) (G0.gO (O0.recd mem i)) (G0.gS (O0.recd mem i)) a (G0.gZ (O0.recd mem i)).length c, .bool true]) ∧ J0.Own W.heap.size w' a (G0.gZ (O0.recd mem i)) ∧ (G0.gZ (O0.recd mem i)).length ≤ c ∧ Below W.heap.size W w') := fun W e w' ⟨a, c, he, ho, hc, hb⟩ => ⟨a, c, by rw [he, hI], ho, hc, hb⟩
    clear hk hk' hL hI hrs
    obtain ⟨R, hR⟩ : ∃ R, O0.recd mem i = R := ⟨_, rfl⟩
    rw [hR] at hg HF hA hG hRc hK0
    obtain ⟨K, hK⟩ : ∃ K, G0.gK R = K := ⟨_, rfl⟩
    obtain ⟨O, hO⟩ : ∃ O, G0.gO R = O := ⟨_, rfl⟩
    obtain ⟨S, hS⟩ : ∃ S, G0.gS R = S := ⟨_, rfl⟩
    obtain ⟨Z, hZ⟩ : ∃ Z, G0.gZ R = Z := ⟨_, rfl⟩
    rw [hK, hO, hS, hZ] at HF hA
    rw [hK, hS, hZ] at hg
    rw [hK] at hK0
    obtain ⟨⟨s0, s1⟩, zl, s2, hp, -⟩ := hg
    clear hK hO hS hZ hR
    go_enter Tryz.func66, Tryz.ntmps66
    go_wp2_with (first
      | (go_at_call 44; refine (hRc.out _).mono ?_; rintro e w' ⟨rfl, rfl⟩)
      | (go_at_call 43; refine (hG.out _).mono ?_; intro e w1 hans; obtain ⟨a, c, rfl, ho, hc, b1⟩ := hA.out _ _ _ hans; clear hans; have r1 : G3.Rs w a Z w1 := G3.rs_new b1 ho; have l1 := ls_new (k := K) (o := O) (s := S) (c := c) r1))
    obtain ⟨W1, hW1⟩ : ∃ W1, w1.alloc (.cells #[.int .i64 K, .int .i64 O, .int .i64 S, .slice a Z.length c] 49) = W1 := ⟨_, rfl⟩
    rw [hW1] at l1 ⊢
    have x0 := l1.nb.c0
    have x1 := l1.nb.c1
    have x2 := l1.nb.c2
    have x3 := l1.nb.c3
    clear hW1 b1 ho r1
    go_loop [9, 10] (fun t j => ∃ k : Nat, k ≤ Z.length ∧ j = .int .i64 k ∧ t = .string (O0.joined mem Z k)) (fun _ j => Z.length - (intOf j).toNat)
    case atStart => exact ⟨0, Nat.zero_le _, rfl, rfl⟩
    case round =>
      obtain ⟨k, hk, rfl, rfl⟩ := hrel
      have hjs := O0.joined_size hm hp k hk
      by_cases hlt : k < Z.length
      · obtain ⟨b, off, rfl, hb, hcell⟩ := l1.rs.own.row.get hlt
        have y1 := hcell k hlt
        have hz := R0.pages_bounds hp hlt
        have hu : O0.joined mem Z (k + 1) = O0.joined mem Z k ++ B2.part mem (Z.getD k 0 * 32) 32 := rfl
        obtain ⟨z, ez⟩ : ∃ z, Z.getD k 0 = z := ⟨_, rfl⟩
        rw [ez] at y1 hz hu
        have hps := O0.page_size hm hz.1 hz.2
        have e1 : (0 : Int) ≤ (k : Int) := by omega
        have e2 : (k : Int) < (Z.length : Int) := by omega
        have zz : 32 * k + 32 ≤ 9223372036854775807 := by omega
        have hpg : Hid (∀ W, Calls Tryz.prog 50 #[.string mem, .int .i64 z] W fun e w' => e = .returned (.string (B2.part mem (z * 32) 32)) ∧ W = w') := fun W => (O1.l03Page mem z W hms hz.1 hz.2).mono fun _ _ h => ⟨h.1, h.2.symm⟩
        have HU : Hid (O0.joined mem Z (k + 1) = O0.joined mem Z k ++ B2.part mem (z * 32) 32) := hu
        clear hu ez hcell hz
        go_wp2_with (go_at_call 50; refine (hpg.out _).mono ?_; rintro e w' ⟨rfl, rfl⟩)
        go_round
        case rel => exact ⟨k + 1, by omega, by go_num, by rw [HU.out]⟩
        case measure => simp [intOf]; omega
      · obtain rfl : k = Z.length := by omega
        have i1 : S ≤ 32 * (Z.length : Int) := s2
        have c0 := l1.rs.res.c0
        have c1 := l1.rs.res.c1
        have c2 := l1.rs.res.c2
        have c3 := l1.rs.res.c3
        have f0 := l1.rs.res.f0
        have f1 := l1.rs.res.f1
        have f2 := l1.rs.res.f2
        have f3 := l1.rs.res.f3
        have i2 : S ≤ ((32 * Z.length : Nat) : Int) := by omega
        have hnb := (((l1.nb.setOther (B' := w.heap.size) (by have := l1.ne; omega) 0 (.int .i64 K)).setOther (B' := w.heap.size) (by have := l1.ne; omega) 1 (.int .i64 O)).setOther (B' := w.heap.size) (by have := l1.ne; omega) 2 (.int .i64 S)).setOther (B' := w.heap.size) (by have := l1.ne; omega) 3 (.slice a Z.length c)
        have y2 := hnb.c2
        clear hnb
        go_wp2
        go_region
        all_goals
          have q := l1.rs.res.put4 (.int .i64 K) (.int .i64 O) (.int .i64 S) (.slice a Z.length c)
          have d := l1.rs.done (.int .i64 K) (.int .i64 O) (.int .i64 S) (.slice a Z.length c)
          go_wp2
          refine bodyPost_ret (v := .tuple #[val K O S a Z.length c, .string ((O0.joined mem Z Z.length).extract 0 S.toNat), .bool true]) (by simp [results, Tryz.results66, go_sem, q.c0, q.c1, q.c2, q.c3]) rfl (HF.out _ _ _ ?_ hc ?_)
          · exact d.1.drew
          · exact d.2.drew
  · have hL' : O0.isL mem i = false := by simpa using hL
    have HF : Hid (∀ w', Below w.heap.size w w' → Ans mem i w (.returned (.tuple #[val 0 0 0 none 0 0, .string ⟨#[]⟩, .bool false])) w') := fun w' => ans_no hL'
    have hA : Hid (∀ W e w', G3.Ans (O0.recd mem i) W e w' → ∃ a c, e = .returned (.tuple #[val (G0.gK (O0.recd mem i)) (G0.gO (O0.recd mem i)) (G0.gS (O0.recd mem i)) a (G0.gZ (O0.recd mem i)).length c, .bool (G0.isI (O0.recd mem i))]) ∧ J0.Own W.heap.size w' a (G0.gZ (O0.recd mem i)) ∧ (G0.gZ (O0.recd mem i)).length ≤ c ∧ Below W.heap.size W w') := fun W e w' h => h
    have hcase : ((mem.size : Int) != 768) = true ∨ (((mem.size : Int) != 768) = false ∧ G0.isI (O0.recd mem i) = false) ∨ (((mem.size : Int) != 768) = false ∧ G0.isI (O0.recd mem i) = true ∧ (G0.gK (O0.recd mem i) == 0) = true) := by
      by_cases hm : mem.size = 768
      · right
        have g8 : ((mem.size : Int) != 768) = false := by simp; omega
        cases hI : G0.isI (O0.recd mem i) with
        | false => exact Or.inl ⟨g8, rfl⟩
        | true =>
          refine Or.inr ⟨g8, rfl, ?_⟩
          rw [(G0.g_yes hI).1]
          by_cases h0 : B1.byteAt (O0.recd mem i) 0 = 0
          · simpa using h0
          · rw [O0.isL_of hm hI h0] at hL'
            cases hL'
      · left
        simp
        omega
    clear hL hL' hrs
    obtain ⟨R, hR⟩ : ∃ R, O0.recd mem i = R := ⟨_, rfl⟩
    rw [hR] at hA hG hRc hcase
    obtain ⟨K, hK⟩ : ∃ K, G0.gK R = K := ⟨_, rfl⟩
    obtain ⟨O, hO⟩ : ∃ O, G0.gO R = O := ⟨_, rfl⟩
    obtain ⟨S, hS⟩ : ∃ S, G0.gS R = S := ⟨_, rfl⟩
    obtain ⟨Z, hZ⟩ : ∃ Z, G0.gZ R = Z := ⟨_, rfl⟩
    rw [hK, hO, hS, hZ] at hA
    rw [hK] at hcase
    clear hK hO hS hZ hR
    rcases hcase with g8 | ⟨g8, gI⟩ | ⟨g8, gI, gK⟩
    all_goals
      go_enter Tryz.func66, Tryz.ntmps66
      go_wp2_with (first
        | (go_at_call 44; refine (hRc.out _).mono ?_; rintro e w' ⟨rfl, rfl⟩)
        | (go_at_call 43; refine (hG.out _).mono ?_; intro e w1 hans; obtain ⟨a, c, rfl, ho, hc, b1⟩ := hA.out _ _ _ hans; clear hans; have r1 : G3.Rs w a Z w1 := G3.rs_new b1 ho; have l1 := ls_new (k := K) (o := O) (s := S) (c := c) r1; have x0 := l1.nb.c0; have c0 := l1.rs.res.c0; have c1 := l1.rs.res.c1; have c2 := l1.rs.res.c2; have c3 := l1.rs.res.c3; have f0 := l1.rs.res.f0; have f1 := l1.rs.res.f1; have f2 := l1.rs.res.f2; have f3 := l1.rs.res.f3))
      have q := l1.rs.res.put4 (.int .i64 0) (.int .i64 0) (.int .i64 0) (.slice none 0 0)
      have d := l1.rs.done (.int .i64 0) (.int .i64 0) (.int .i64 0) (.slice none 0 0)
      exact bodyPost_ret (v := .tuple #[val 0 0 0 none 0 0, .string ⟨#[]⟩, .bool false]) (by simp [results, Tryz.results66, go_sem, q.c0, q.c1, q.c2, q.c3]) rfl (HF.out _ d.2)
end Go.Proofs.YtkdjcbmmbjongaaGreat.O3

/- A list of entries that grows behind a pointer; the contracts of impl.Names and spec.Names, as the given laws call them. -/
namespace Go.Proofs.YtkdjcbmmbjongaaGreat.NE
open Go.ChangeShapes Go.WideShapes Go.ChangeAt Go.RowKit
set_option linter.unusedVariables false
set_option linter.unusedSimpArgs false
set_option maxRecDepth 10000

open V1 (flat flat_length OwnE EBuf)
open SP (flat_app flat_one row_flat row_put)
open N0 (Ln)
open N1 (Sl Lists Fit LB lb_new)
open I0 (val)
open J0 (Own)
open SW (stOk)
open SQ (Ans)

section Series
variable {base n cap : Nat} {a : Option Addr} {w W W' : World} {es : List T0.Ent}

/-- 'list = append(list, others...)'. -/
theorem append_erow {ops : Array Oper} {rest : List Oper} {o : Oper} {A : Act} {Q : Exit → Act → World → Prop} (hgd : o.guard = none) (sl x : Operand)
    (ho : o.op = .call { callee := .builtin .append, args := #[sl, x], argTypes := #[33, 33] })
    (hbuf : EBuf base w a n cap es) (ax : Option Addr) (cx : Nat) (xs : List T0.Ent) (hs : A.eval sl = .slice a n cap) (hx : A.eval x = .slice ax xs.length cx) (hR : T0.Row w ax xs) (hlen : n + xs.length ≤ 1048576) (hb : base ≤ w.heap.size)
    (h : ∀ a' cap' w', EBuf base w' a' (n + xs.length) cap' (es ++ xs) → Below base w w' → wpList Tryz.prog ops Q rest (A.put o.dst (.slice a' (n + xs.length) cap')) w') : wpList Tryz.prog ops Q (o :: rest) A w := by
  obtain ⟨i0, hi, hz0, hz1, hz2⟩ := info_parts T5.info33
  by_cases h0 : xs = []
  · subst h0
    refine Lib.wpList_append_run _ hgd sl x 33 33 ho _ _ hs hx _ _ (Q1.run_append_none w 33 _ 57 i0 Tryz.underlying33 hi a n cap hbuf.fits ax cx) ?_
    exact h a cap w (by rw [List.append_nil]; exact hbuf) (Below.refl _ _)
  · rcases hR with hR | ⟨b, off, rfl, hb2, hc⟩
    · exact absurd hR h0
    · have hm : 0 < xs.length := List.length_pos_iff.2 h0
      refine wpList_append_lies _ hgd sl x 33 ho base 57 i0 (.agg #[.int .i64 0, .string ⟨#[]⟩]) 2 24 Tryz.underlying33 hi hz0 hz1 hz2 rfl (by omega) _ n _ hs hbuf.2 ⟨b, off, none⟩ xs.length cx (flat xs) hx (flat_length xs) ?_ (flat_one xs) hm (by unfold maxLen; omega) (by omega) hb _ rfl ?_
      · intro j u hj
        rw [B0.add_off]
        exact row_flat hc j u hj
      · intro g' cap' w' ho' hg' _ _
        refine h (some ⟨g', 0, none⟩) cap' w' ⟨by rw [hbuf.1]; simp, ?_⟩ ?_
        · rw [flat_app]
          exact ho'
        · exact F0.below_grown (Below.refl _ _) hg' (fun g hg => (hbuf.2.lt g hg).1) hb

/-- A series of puts in its block; its row lies behind it. -/
structure SI (B : Nat) (a : Option Addr) (n cap : Nat) (es : List T0.Ent) (W : World) : Prop where
  blk : K0.Blk B [.slice a n cap] W
  buf : EBuf (B + 1) W a n cap es

variable {B : Nat}
theorem SI.below (h : SI B a n cap es W) (hb : Below W.heap.size W W') : SI B a n cap es W' := ⟨h.blk.below hb, h.buf.below hb⟩
theorem SI.lt (h : SI B a n cap es W) : B + 1 ≤ W.heap.size := h.blk.lt
theorem SI.len (h : SI B a n cap es W) : n = es.length := h.buf.1
theorem SI.drew (h : SI B a n cap es W) : SI B a n cap es W.drew := ⟨h.blk.drew, h.buf.1, h.buf.2⟩
theorem SI.setLow (h : SI B a n cap es W) {B' : Nat} (hB : B' < B) (j : Nat) (v : Value) : SI B a n cap es (W.setCell ⟨B', j, none⟩ v) :=
  ⟨h.blk.setOther (by omega) j v, h.buf.1, ownsRow_setCell_other h.buf.2 (a := ⟨B', j, none⟩) (fun e => by have := (h.buf.2.lt _ e).1; simp only at this; omega) _⟩
theorem ebuf_nil (w : World) : EBuf base w none 0 0 [] := ⟨rfl, rfl, Or.inl ⟨rfl, rfl⟩⟩
theorem si_new (w : World) : SI w.heap.size none 0 0 [] (w.alloc (.cells #[.slice none 0 0] 72)) := ⟨K0.blk_new [.slice none 0 0] w 72, ebuf_nil _⟩
theorem SI.store {a' : Option Addr} {n' cap' : Nat} {es' : List T0.Ent} (h : SI B a n cap es w) (hbuf : EBuf (B + 1) W a' n' cap' es') (hb : Below (B + 1) w W) : SI B a' n' cap' es' (W.setCell ⟨B, 0, none⟩ (.slice a' n' cap')) := by
  have h1 := J0.blk_keep h.blk hb (Nat.lt_succ_self B)
  refine ⟨h1.set 0 (.slice a' n' cap'), hbuf.1, ?_⟩
  exact ownsRow_setCell_other hbuf.2 (a := ⟨B, 0, none⟩) (fun e => Nat.not_succ_le_self _ (hbuf.2.lt _ e).1) _

set_option maxHeartbeats 1000000 in
theorem add (ax : Option Addr) (cx : Nat) (xs : List T0.Ent) (w : World) (h : SI B a n cap es w) (hR : T0.Row w ax xs) (hlen : n + xs.length ≤ 1048576) :
    Calls Tryz.prog 42 #[.pointer (some ⟨B, 0, none⟩), .slice ax xs.length cx] w fun e w' => e = .returned (.tuple #[]) ∧ ∃ a' cap', SI B a' (n + xs.length) cap' (es ++ xs) w' ∧ Below B w w' := by
  have c0 := h.blk.c0
  have hlt := h.lt
  have hbf := h.buf
  have HH : Hid (SI B a n cap es w) := h
  clear h
  go_enter Tryz.func42, Tryz.ntmps42
  go_wp2_with (at_builtin; refine append_erow rfl (.tmp 8) (.tmp 9) rfl hbf ax cx xs (by rfl) (by rfl) hR (by omega) hlt ?_; intro a1 cap1 w1 b1 l1; have k1 := J0.blk_keep HH.out.blk l1 (Nat.lt_succ_self B); have c1 := k1.c0; have f1 := k1.f0)
  refine bodyPost_end (v := .tuple #[]) (by simp [results, Tryz.results42, go_sem]) rfl ?_
  exact ⟨rfl, a1, cap1, HH.out.store b1 l1, SR.store_below l1 _⟩

end Series

/-- Whether the lent directory's entries can be read. -/
def nmI (d : Ln) (mem : ByteArray) : Bool := O0.isL mem d.ino && (decide (O0.lK mem d.ino = 2) && V0.isD (O0.lD mem d.ino))
def nmE (d : Ln) (mem : ByteArray) : List T0.Ent := if nmI d mem then V0.dE (O0.lD mem d.ino) else []
def nmS (d : Ln) (mem : ByteArray) : Bool := stOk d mem d.ino 2 && nmI d mem
def nmF (d : Ln) (mem : ByteArray) : List T0.Ent := if nmS d mem then V0.dE (O0.lD mem d.ino) else []

theorem lD_size (mem : ByteArray) (i : Int) : (O0.lD mem i).size ≤ 192 := by
  cases h : O0.isL mem i with
  | false => rw [(O0.l_no h).2.2.2.2]; exact Nat.zero_le _
  | true =>
    have hh := h
    simp only [O0.isL, Bool.and_eq_true, decide_eq_true_eq] at hh
    obtain ⟨h1, h2, h3, h4, h5⟩ := O0.got hh.2.1
    rw [(O0.l_yes h).2.2.2.2, ByteArray.size_extract, O0.joined_size hh.1 h4 _ (Nat.le_refl _)]
    omega

theorem dE_no {s : ByteArray} (h : V0.isD s = false) : V0.dE s = [] := by rw [V0.dE, h]; rfl
theorem dE_len (s : ByteArray) : (V0.dE s).length ≤ 13 := by
  unfold V0.dE
  split
  · rw [V0.ents_length]; exact Nat.min_le_right _ _
  · exact Nat.zero_le _
theorem dE_fits (s : ByteArray) (hs : s.size ≤ 281474976710656) : T0.Fits (V0.dE s) := by
  unfold V0.dE
  split
  · exact V1.fits_ents s _ hs
  · intro j hj; simp at hj
theorem nmE_len (d : Ln) (mem : ByteArray) : (nmE d mem).length ≤ 13 := by
  unfold nmE
  split
  · exact dE_len _
  · exact Nat.zero_le _
theorem nmE_fits (d : Ln) (mem : ByteArray) : T0.Fits (nmE d mem) := by
  unfold nmE
  split
  · exact dE_fits _ (Nat.le_trans (lD_size _ _) (by decide))
  · intro j hj; simp at hj
theorem nmF_len (d : Ln) (mem : ByteArray) : (nmF d mem).length ≤ 13 := by
  unfold nmF
  split
  · exact dE_len _
  · exact Nat.zero_le _
theorem nmF_fits (d : Ln) (mem : ByteArray) : T0.Fits (nmF d mem) := by
  unfold nmF
  split
  · exact dE_fits _ (Nat.le_trans (lD_size _ _) (by decide))
  · intro j hj; simp at hj

theorem nm_no {d : Ln} {mem : ByteArray} (h : (O0.isL mem d.ino && decide (O0.lK mem d.ino = 2)) = false) : nmI d mem = false ∧ nmE d mem = [] := by
  have h1 : nmI d mem = false := by rw [nmI, ← Bool.and_assoc, h, Bool.false_and]
  exact ⟨h1, by rw [nmE, h1]; rfl⟩
theorem nm_yes {d : Ln} {mem : ByteArray} (h1 : O0.isL mem d.ino = true) (h2 : O0.lK mem d.ino = 2) : nmI d mem = V0.isD (O0.lD mem d.ino) ∧ nmE d mem = V0.dE (O0.lD mem d.ino) := by
  have h : nmI d mem = V0.isD (O0.lD mem d.ino) := by rw [nmI, h1, decide_eq_true h2]; rfl
  refine ⟨h, ?_⟩
  rw [nmE, h]
  cases hd : V0.isD (O0.lD mem d.ino) with
  | true => rfl
  | false => rw [dE_no hd]; rfl

set_option maxHeartbeats 2000000 in
theorem impl_Names (d : Ln) (s : Sl) (mem : ByteArray) (w : World) (hs : mem.size ≤ 281474976710656) :
    Calls Tryz.prog 41 #[N1.val d s, .string mem] w (Ans (nmE d mem) (nmI d mem) w) := by
  have l0 := K0.below_new w (.cells #[.int .i64 d.ino, .int .i64 d.cl, .int .i64 d.un, .string d.rc, .slice s.a1 d.pg.length s.c1, .string d.sav, .slice s.a2 d.po.length s.c2, .slice s.a3 d.fr.length s.c3] 31)
  have hld : Hid (∀ W, Calls Tryz.prog 68 #[.string mem, .int .i64 d.ino] W (O2.Ans mem d.ino W)) := fun W => O3.impl_Load mem d.ino W hs
  have hgd : Hid (∀ W, Calls Tryz.prog 69 #[.string (O0.lD mem d.ino)] W (V1.Ans (O0.lD mem d.ino) W)) := fun W => V2.impl_GetDir _ W (Nat.le_trans (lD_size _ _) (by decide))
  by_cases hL : O0.isL mem d.ino = true
  · have hld' := hld.out
    by_cases hK : O0.lK mem d.ino = 2
    · obtain ⟨f1, f2⟩ := nm_yes hL hK
      rw [f1, f2]
      have hl2 : Hid (∀ W, Calls Tryz.prog 68 #[.string mem, .int .i64 d.ino] W fun e w' => ∃ (o t : Int) (a : Option Addr) (n c : Nat), e = .returned (.tuple #[val 2 o t a n c, .string (O0.lD mem d.ino), .bool true]) ∧ Below W.heap.size W w') := fun W => (hld.out W).mono fun e w' ⟨a, c, he, _, _, hb⟩ => ⟨O0.lO mem d.ino, O0.lS mem d.ino, a, (O0.lZ mem d.ino).length, c, by rw [he, hK, hL], hb⟩
      clear hld hld' hL hK f1 f2
      go_enter Tryz.func41, Tryz.ntmps41
      go_wp2_with (first
        | (go_at_call 68; refine (hl2.out _).mono ?_; rintro e w2 ⟨o2, t2, a2, n2, c2, rfl, b2⟩; have l2 := l0.trans (b2.mono l0.size); have l3 := l2.alloc l2.size (.cells #[.int .i64 2, .int .i64 o2, .int .i64 t2, .slice a2 n2 c2] 49))
        | (go_at_call 69; refine (hgd.out _).mono ?_; rintro e w4 ⟨a4, c4, rfl, o4, q4, b4⟩; have l4 := l3.trans (b4.mono l3.size)))
      go_ret2
      exact ⟨a4, c4, rfl, o4.mono l3.size, q4, l4⟩
    · obtain ⟨f1, f2⟩ := nm_no (d := d) (mem := mem) (by rw [decide_eq_false hK, Bool.and_false])
      rw [f1, f2]
      have hl2 : Hid (∀ W, Calls Tryz.prog 68 #[.string mem, .int .i64 d.ino] W fun e w' => ∃ (o t : Int) (a : Option Addr) (n c : Nat), e = .returned (.tuple #[val (O0.lK mem d.ino) o t a n c, .string (O0.lD mem d.ino), .bool true]) ∧ Below W.heap.size W w') := fun W => (hld.out W).mono fun e w' ⟨a, c, he, _, _, hb⟩ => ⟨O0.lO mem d.ino, O0.lS mem d.ino, a, (O0.lZ mem d.ino).length, c, by rw [he, hL], hb⟩
      have hk1 : (O0.lK mem d.ino == 2) = false := by simpa using hK
      have hk2 : (O0.lK mem d.ino != 2) = true := by simpa using hK
      obtain ⟨Kk, hKk⟩ : ∃ Kk, O0.lK mem d.ino = Kk := ⟨_, rfl⟩
      rw [hKk] at hl2 hk1 hk2
      clear hld hld' hL hK f1 f2 hKk
      go_enter Tryz.func41, Tryz.ntmps41
      go_wp2_with (go_at_call 68; refine (hl2.out _).mono ?_; rintro e w2 ⟨o2, t2, a2, n2, c2, rfl, b2⟩; have l2 := l0.trans (b2.mono l0.size); have l3 := l2.alloc l2.size (.cells #[.int .i64 Kk, .int .i64 o2, .int .i64 t2, .slice a2 n2 c2] 49); have l4 := l3.alloc l3.size (.cells #[] 57))
      go_ret2
      exact SQ.ans_no l4
  · have hL' : O0.isL mem d.ino = false := by simpa using hL
    obtain ⟨f1, f2⟩ := nm_no (d := d) (mem := mem) (by rw [hL', Bool.false_and])
    rw [f1, f2]
    have hl2 : Hid (∀ W, Calls Tryz.prog 68 #[.string mem, .int .i64 d.ino] W fun e w' => ∃ (k o t : Int) (a : Option Addr) (n c : Nat), e = .returned (.tuple #[val k o t a n c, .string (O0.lD mem d.ino), .bool false]) ∧ Below W.heap.size W w') := fun W => (hld.out W).mono fun e w' ⟨a, c, he, _, _, hb⟩ => ⟨O0.lK mem d.ino, O0.lO mem d.ino, O0.lS mem d.ino, a, (O0.lZ mem d.ino).length, c, by rw [he, hL'], hb⟩
    clear hld hL hL' f1 f2
    go_enter Tryz.func41, Tryz.ntmps41
    go_wp2_with (go_at_call 68; refine (hl2.out _).mono ?_; rintro e w2 ⟨k2, o2, t2, a2, n2, c2, rfl, b2⟩; have l2 := l0.trans (b2.mono l0.size); have l3 := l2.alloc l2.size (.cells #[.int .i64 k2, .int .i64 o2, .int .i64 t2, .slice a2 n2 c2] 49); have l4 := l3.alloc l3.size (.cells #[] 57))
    go_ret2
    exact SQ.ans_no l4

/-- Where a record stands so the two readings are one. -/
theorem st_nm {d : Ln} {mem : ByteArray} (h : stOk d mem d.ino 2 = true) : O0.isL mem d.ino = true ∧ O0.lK mem d.ino = 2 := by
  obtain ⟨h1, h2, h3, h4⟩ := SF.st_facts h
  have h5 := (G0.g_yes h3).1
  have hL : O0.isL mem d.ino = true := O0.isL_of h1 h3 (by omega)
  exact ⟨hL, by rw [(O0.l_yes hL).1]; exact h4⟩

theorem nmS_yes {d : Ln} {mem : ByteArray} (h : stOk d mem d.ino 2 = true) : nmS d mem = V0.isD (O0.lD mem d.ino) ∧ nmF d mem = V0.dE (O0.lD mem d.ino) ∧ nmS d mem = nmI d mem ∧ nmF d mem = nmE d mem := by
  obtain ⟨h1, h2⟩ := st_nm h
  obtain ⟨f1, f2⟩ := nm_yes h1 h2
  have e1 : nmS d mem = nmI d mem := by rw [nmS, h]; rfl
  have e2 : nmF d mem = nmE d mem := by rw [nmF, nmE, e1]
  exact ⟨by rw [e1, f1], by rw [e2, f2], e1, e2⟩
theorem nmS_no {d : Ln} {mem : ByteArray} (h : stOk d mem d.ino 2 = false) : nmS d mem = false ∧ nmF d mem = [] := by
  have e : nmS d mem = false := by rw [nmS, h]; rfl
  exact ⟨e, by rw [nmF, e]; rfl⟩

set_option maxHeartbeats 2000000 in
theorem spec_Names (d : Ln) (s : Sl) (mem : ByteArray) (w : World) (hs : mem.size ≤ 281474976710656) (hF : Fit d s) (hpo : d.po.length ≤ 1048576) (hfr : d.fr.length ≤ 1048576) (hR : Lists w d s) :
    Calls Tryz.prog 40 #[N1.val d s, .string mem] w (Ans (nmF d mem) (nmS d mem) w) := by
  have l0 := K0.below_new w (.cells #[.int .i64 d.ino, .int .i64 d.cl, .int .i64 d.un, .string d.rc, .slice s.a1 d.pg.length s.c1, .string d.sav, .slice s.a2 d.po.length s.c2, .slice s.a3 d.fr.length s.c3] 31)
  have x0 := lb_new d s w 31
  have L0 := hR.below l0
  have hst : Hid (∀ W, Lists W d s → Calls Tryz.prog 22 #[N1.val d s, .string mem, .int .i64 2] W fun e w' => ∃ (k o t : Int) (a : Option Addr) (n c : Nat), e = .returned (.tuple #[val k o t a n c, .bool (stOk d mem d.ino 2)]) ∧ Below W.heap.size W w') := fun W h => (SX.l07Inode d s mem 2 W hs hF hpo hfr h).mono fun e w' ⟨k, o, t, a, n, c, he, hb, _⟩ => ⟨k, o, t, a, n, c, he, hb⟩
  have hld : Hid (∀ W, Calls Tryz.prog 66 #[.string mem, .int .i64 d.ino] W fun e w' => ∃ (k o t : Int) (a : Option Addr) (n c : Nat), e = .returned (.tuple #[val k o t a n c, .string (O0.lD mem d.ino), .bool (O0.isL mem d.ino)]) ∧ Below W.heap.size W w') := fun W => (O3.spec_Load mem d.ino W hs).mono fun e w' ⟨a, c, he, _, _, hb⟩ => ⟨_, _, _, a, _, c, he, hb⟩
  have hgd : Hid (∀ W, Calls Tryz.prog 67 #[.string (O0.lD mem d.ino)] W (V1.Ans (O0.lD mem d.ino) W)) := fun W => V3.spec_GetDir _ W (Nat.le_trans (lD_size _ _) (by decide))
  clear hR
  by_cases hk : stOk d mem d.ino 2 = true
  · obtain ⟨f1, f2, -, -⟩ := nmS_yes hk
    obtain ⟨h1, -⟩ := st_nm hk
    rw [f1, f2]
    rw [hk] at hst
    rw [h1] at hld
    clear hk h1 f1 f2
    by_cases hd : V0.isD (O0.lD mem d.ino) = true
    · have hgd' : Hid (∀ W, Calls Tryz.prog 67 #[.string (O0.lD mem d.ino)] W fun e w' => ∃ a c, e = .returned (.tuple #[.slice a (V0.dE (O0.lD mem d.ino)).length c, .bool true]) ∧ OwnE W.heap.size w' a (V0.dE (O0.lD mem d.ino)) ∧ (V0.dE (O0.lD mem d.ino)).length ≤ c ∧ Below W.heap.size W w') := fun W => (hgd.out W).mono fun e w' ⟨a, c, he, h1, h2, h3⟩ => ⟨a, c, by rw [he, hd], h1, h2, h3⟩
      rw [hd]
      clear hgd hd
      go_enter Tryz.func40, Tryz.ntmps40
      go_wp2_with (first
        | (go_at_call 22; refine (hst.out _ L0).mono ?_; rintro e w1 ⟨k1, o1, t1, a1, n1, c1, rfl, b1⟩; have l1 := l0.trans (b1.mono l0.size); have x1 := x0.below b1; have m1 := K0.below_new w1 (.cells #[.int .i64 k1, .int .i64 o1, .int .i64 t1, .slice a1 n1 c1] 49); have l1' := l1.trans (m1.mono l1.size); have x1' := x1.below m1; have c01 := x1'.c0)
        | (go_at_call 66; refine (hld.out _).mono ?_; rintro e w2 ⟨k2, o2, t2, a2, n2, c2, rfl, b2⟩; have l2 := l1'.trans (b2.mono l1'.size); have l3 := l2.alloc l2.size (.cells #[.int .i64 k2, .int .i64 o2, .int .i64 t2, .slice a2 n2 c2] 49))
        | (go_at_call 67; refine (hgd'.out _).mono ?_; rintro e w4 ⟨a4, c4, rfl, o4, q4, b4⟩; have l4 := l3.trans (b4.mono l3.size)))
      go_ret2
      exact ⟨a4, c4, rfl, o4.mono l3.size, q4, l4⟩
    · have hd' : V0.isD (O0.lD mem d.ino) = false := by simpa using hd
      have hgd' : Hid (∀ W, Calls Tryz.prog 67 #[.string (O0.lD mem d.ino)] W fun e w' => ∃ a n c, e = .returned (.tuple #[.slice a n c, .bool false]) ∧ Below W.heap.size W w') := fun W => (hgd.out W).mono fun e w' ⟨a, c, he, _, _, h3⟩ => ⟨a, (V0.dE (O0.lD mem d.ino)).length, c, by rw [he, hd'], h3⟩
      rw [dE_no hd', hd']
      clear hgd hd hd'
      go_enter Tryz.func40, Tryz.ntmps40
      go_wp2_with (first
        | (go_at_call 22; refine (hst.out _ L0).mono ?_; rintro e w1 ⟨k1, o1, t1, a1, n1, c1, rfl, b1⟩; have l1 := l0.trans (b1.mono l0.size); have x1 := x0.below b1; have m1 := K0.below_new w1 (.cells #[.int .i64 k1, .int .i64 o1, .int .i64 t1, .slice a1 n1 c1] 49); have l1' := l1.trans (m1.mono l1.size); have x1' := x1.below m1; have c01 := x1'.c0)
        | (go_at_call 66; refine (hld.out _).mono ?_; rintro e w2 ⟨k2, o2, t2, a2, n2, c2, rfl, b2⟩; have l2 := l1'.trans (b2.mono l1'.size); have l3 := l2.alloc l2.size (.cells #[.int .i64 k2, .int .i64 o2, .int .i64 t2, .slice a2 n2 c2] 49))
        | (go_at_call 67; refine (hgd'.out _).mono ?_; rintro e w4 ⟨a4, n4, c4, rfl, b4⟩; have l4 := l3.trans (b4.mono l3.size); have l5 := l4.alloc l4.size (.cells #[] 57)))
      go_ret2
      exact SQ.ans_no l5
  · have hk' : stOk d mem d.ino 2 = false := by simpa using hk
    obtain ⟨f1, f2⟩ := nmS_no hk'
    rw [f1, f2]
    rw [hk'] at hst
    have hgd' : Hid (∀ W, Calls Tryz.prog 67 #[.string (O0.lD mem d.ino)] W fun e w' => ∃ a n c b, e = .returned (.tuple #[.slice a n c, .bool b]) ∧ Below W.heap.size W w') := fun W => (hgd.out W).mono fun e w' ⟨a, c, he, _, _, h3⟩ => ⟨a, _, c, _, he, h3⟩
    clear hgd hk hk' f1 f2
    go_enter Tryz.func40, Tryz.ntmps40
    go_wp2_with (first
      | (go_at_call 22; refine (hst.out _ L0).mono ?_; rintro e w1 ⟨k1, o1, t1, a1, n1, c1, rfl, b1⟩; have l1 := l0.trans (b1.mono l0.size); have x1 := x0.below b1; have m1 := K0.below_new w1 (.cells #[.int .i64 k1, .int .i64 o1, .int .i64 t1, .slice a1 n1 c1] 49); have l1' := l1.trans (m1.mono l1.size); have x1' := x1.below m1; have c01 := x1'.c0)
      | (go_at_call 66; refine (hld.out _).mono ?_; rintro e w2 ⟨k2, o2, t2, a2, n2, c2, rfl, b2⟩; have l2 := l1'.trans (b2.mono l1'.size); have l3 := l2.alloc l2.size (.cells #[.int .i64 k2, .int .i64 o2, .int .i64 t2, .slice a2 n2 c2] 49))
      | (go_at_call 67; refine (hgd'.out _).mono ?_; rintro e w4 ⟨a4, n4, c4, bb4, rfl, b4⟩; have l4 := l3.trans (b4.mono l3.size); have l5 := l4.alloc l4.size (.cells #[] 57)))
    go_ret2
    exact SQ.ans_no l5
end Go.Proofs.YtkdjcbmmbjongaaGreat.NE

/- The contracts of impl.Remove and spec.Remove, as the given laws call them. -/
namespace Go.Proofs.YtkdjcbmmbjongaaGreat.NR
open Go.ChangeShapes Go.WideShapes Go.ChangeAt Go.RowKit
set_option linter.unusedVariables false
set_option linter.unusedSimpArgs false
set_option maxRecDepth 10000

open V1 (OwnE EBuf)
open N0 (Ln)
open N1 (Sl Lists Fit LB lb_new)
open SW (stOk)
open SQ (Ans)
open NE (nmI nmE nmS nmF SI)
open NN (namesZ namesOk)

/-- The entries without that of a name. -/
def lefts (nm : ByteArray) (es : List T0.Ent) : List T0.Ent := es.filter fun e => !(e.2.toList == nm.toList)

theorem lefts_succ (nm : ByteArray) (es : List T0.Ent) (k : Nat) (h : k < es.length) : lefts nm (es.take (k + 1)) = if ((T0.ent es k).2.toList == nm.toList) then lefts nm (es.take k) else lefts nm (es.take k) ++ [T0.ent es k] := by
  rw [lefts, List.take_succ_eq_append_getElem h, List.filter_append, T0.ent_get _ _ h]
  cases hb : (es[k].2.toList == nm.toList) <;> simp [lefts, hb]
theorem lefts_len (nm : ByteArray) (es : List T0.Ent) : (lefts nm es).length ≤ es.length := List.length_filter_le _ _
theorem lefts_fits {nm : ByteArray} {es : List T0.Ent} (h : T0.Fits es) : T0.Fits (lefts nm es) := fun j hj => by
  rw [T0.ent_get _ _ hj]
  have hm : (lefts nm es)[j] ∈ es := (List.mem_filter.1 (List.getElem_mem hj)).1
  obtain ⟨i, hi, he⟩ := List.mem_iff_getElem.1 hm
  rw [← he, ← T0.ent_get _ _ hi]
  exact h i hi

/-- What is put to take a name out, of entries that were read or not. -/
def rmZ (d : Ln) (mem nm : ByteArray) (ok : Bool) (E : List T0.Ent) : List T0.Ent := if (ok && !(decide ((lefts nm E).length = E.length))) then namesZ d mem (lefts nm E) else []
def rmOk (d : Ln) (mem nm : ByteArray) (ok : Bool) (E : List T0.Ent) : Bool := (ok && !(decide ((lefts nm E).length = E.length))) && namesOk d mem (lefts nm E)

theorem rm_no {d : Ln} {mem nm : ByteArray} {ok : Bool} {E : List T0.Ent} (h : (ok && !(decide ((lefts nm E).length = E.length))) = false) : rmOk d mem nm ok E = false ∧ rmZ d mem nm ok E = [] := ⟨by rw [rmOk, h]; rfl, by rw [rmZ, h]; rfl⟩
theorem rm_yes {d : Ln} {mem nm : ByteArray} {E : List T0.Ent} (h : ¬ (lefts nm E).length = E.length) : rmOk d mem nm true E = namesOk d mem (lefts nm E) ∧ rmZ d mem nm true E = namesZ d mem (lefts nm E) := by simp [rmOk, rmZ, h]

/-- The program and the specification read the same entries, or put nothing. -/
theorem rm_same (d : Ln) (mem nm : ByteArray) : rmZ d mem nm (nmI d mem) (nmE d mem) = rmZ d mem nm (nmS d mem) (nmF d mem) ∧ rmOk d mem nm (nmI d mem) (nmE d mem) = rmOk d mem nm (nmS d mem) (nmF d mem) := by
  cases hk : stOk d mem d.ino 2 with
  | true =>
    obtain ⟨-, -, e1, e2⟩ := NE.nmS_yes hk
    rw [e1, e2]
    exact ⟨rfl, rfl⟩
  | false =>
    obtain ⟨e1, e2⟩ := NE.nmS_no hk
    have hn : ∀ es, namesOk d mem es = false ∧ namesZ d mem es = [] := fun es => NN.names_no (by rw [hk]; rfl)
    obtain ⟨r1, r2⟩ := rm_no (d := d) (mem := mem) (nm := nm) (ok := nmS d mem) (E := nmF d mem) (by rw [e1]; rfl)
    rw [r1, r2]
    refine ⟨?_, ?_⟩
    · unfold rmZ
      rw [(hn _).2]
      split <;> rfl
    · unfold rmOk
      rw [(hn _).1, Bool.and_false]
theorem rmZ_len (d : Ln) (mem nm : ByteArray) (ok : Bool) (E : List T0.Ent) : (rmZ d mem nm ok E).length ≤ 8 := by
  unfold rmZ
  split
  · exact NN.namesZ_len _ _ _
  · exact Nat.zero_le _

set_option maxHeartbeats 4000000 in
theorem impl_Remove (d : Ln) (s : Sl) (mem nm : ByteArray) (w : World) (hs : mem.size ≤ 281474976710656) (hF : Fit d s) (hpo : d.po.length ≤ 1048576) (hfr : d.fr.length ≤ 1048576) (hR : Lists w d s) :
    Calls Tryz.prog 19 #[N1.val d s, .string mem, .string nm] w (Ans (rmZ d mem nm (nmI d mem) (nmE d mem)) (rmOk d mem nm (nmI d mem) (nmE d mem)) w) := by
  have l0 := K0.below_new w (.cells #[.int .i64 d.ino, .int .i64 d.cl, .int .i64 d.un, .string d.rc, .slice s.a1 d.pg.length s.c1, .string d.sav, .slice s.a2 d.po.length s.c2, .slice s.a3 d.fr.length s.c3] 31)
  have x0 := lb_new d s w 31
  have HL : Hid (∀ W, Below w.heap.size w W → Lists W d s) := fun W hb => hR.below hb
  have hnm : Hid (∀ W, Calls Tryz.prog 41 #[N1.val d s, .string mem] W (Ans (nmE d mem) (nmI d mem) W)) := fun W => NE.impl_Names d s mem W hs
  have hEl := NE.nmE_len d mem
  have hEf := NE.nmE_fits d mem
  obtain ⟨E, hE⟩ : ∃ E, nmE d mem = E := ⟨_, rfl⟩
  obtain ⟨ok, hok⟩ : ∃ ok, nmI d mem = ok := ⟨_, rfl⟩
  rw [hE] at hnm hEl hEf ⊢
  rw [hok] at hnm ⊢
  have hpn : Hid (∀ W a c, Lists W d s → T0.Row W a (lefts nm E) → (lefts nm E).length ≤ c → Calls Tryz.prog 10 #[N1.val d s, .string mem, .slice a (lefts nm E).length c] W (Ans (namesZ d mem (lefts nm E)) (namesOk d mem (lefts nm E)) W)) := fun W a c h1 h2 h3 => NN.impl_PutNames d s mem a c (lefts nm E) W hs hF hpo hfr (by have := lefts_len nm E; omega) h3 (lefts_fits hEf) h1 h2
  clear hE hok hR hEf
  go_enter Tryz.func19, Tryz.ntmps19
  go_wp2_with (go_at_call 41; refine (hnm.out _).mono ?_; rintro e w1 ⟨a1, c1, rfl, o1, q1, b1⟩; have l1 := l0.trans (b1.mono l0.size); have x1 := x0.below b1; have n2 := K0.below_new w1 (.cells #[.slice none 0 0] 72); have s2 := NE.si_new w1)
  have HW : Hid (∀ W, Below w1.heap.size w1 W → T0.Row W a1 E ∧ LB w.heap.size d s W ∧ Below w.heap.size w W) := fun W hW => ⟨o1.row.below hW, x1.below hW, l1.trans (hW.mono l1.size)⟩
  clear o1 b1 hnm l1 x1 l0 x0
  go_loopw [22] (fun i w' => ∃ (k : Nat) (a' : Option Addr) (cap' : Nat), k ≤ E.length ∧ i = .int .i64 k ∧ SI w1.heap.size a' (lefts nm (E.take k)).length cap' (lefts nm (E.take k)) w' ∧ Below w1.heap.size w1 w') (fun i _ => E.length - (intOf i).toNat)
  case atStart => exact ⟨0, none, 0, Nat.zero_le _, rfl, s2, n2⟩
  case round =>
    obtain ⟨k, a3, cap3, hk, rfl, hsi, hbel⟩ := hrel
    clear s2 n2
    by_cases hlt : k < E.length
    · obtain ⟨b, off, rfl, hlt0, hc⟩ := (HW.out _ hbel).1.get hlt
      have y1 := (hc k hlt).1
      have y2 := (hc k hlt).2
      have hsu := lefts_succ nm E k hlt
      have hll := lefts_len nm (E.take k)
      have htl : (E.take k).length ≤ E.length := by simp; omega
      obtain ⟨z, ez⟩ : ∃ z, T0.ent E k = z := ⟨_, rfl⟩
      rw [ez] at y1 y2 hsu
      obtain ⟨u, v⟩ := z
      simp only at y1 y2 hsu
      obtain ⟨acc, ea⟩ : ∃ acc, lefts nm (E.take k) = acc := ⟨_, rfl⟩
      rw [ea] at hsi hsu hll
      have e1 : (0 : Int) ≤ (k : Int) := by omega
      have e2 : (k : Int) < (E.length : Int) := by omega
      have hB := hbel.size
      have nb := K0.below_new wr (.cells #[.int .i64 u, .string v] 57)
      have kb := K0.blk_new [.int .i64 u, .string v] wr 57
      have kb0 := kb.c0
      have kb1 := kb.c1
      have sb := hsi.below nb
      have Mb := hbel.trans (nb.mono hB)
      by_cases hq : (v.toList == nm.toList) = true
      · rw [hq, if_pos rfl] at hsu
        have HS : Hid (lefts nm (E.take (k + 1)) = acc) := hsu
        have hq2 : (v.toList != nm.toList) = false := by simpa using hq
        clear ez ea hc hsu HW hpn
        go_wp2
        go_roundw
        case rel => exact ⟨k + 1, a3, cap3, by omega, by go_num, by rw [HS.out]; exact sb, Mb⟩
        case measure => simp [intOf]; omega
      · have hq' : (v.toList == nm.toList) = false := by simpa using hq
        rw [hq', if_neg (by decide)] at hsu
        have HS : Hid (lefts nm (E.take (k + 1)) = acc ++ [(u, v)]) := hsu
        have hq2 : (v.toList != nm.toList) = true := by simpa using hq
        have hadd : Hid (∀ W H, W.heap.size = H → SI w1.heap.size a3 acc.length cap3 acc W → Calls Tryz.prog 42 #[.pointer (some ⟨w1.heap.size, 0, none⟩), .slice (some ⟨H, 0, none⟩) 1 1] (W.alloc (.cells #[.int .i64 u, .string v] 57)) fun e w' => e = .returned (.tuple #[]) ∧ ∃ a' cap', SI w1.heap.size a' (acc.length + 1) cap' (acc ++ [(u, v)]) w' ∧ Below w1.heap.size W w') := fun W H hH hW => hH ▸ (NE.add (some ⟨W.heap.size, 0, none⟩) 1 [(u, v)] _ (hW.below (K0.below_new _ _)) (SP.row_put W u v 57) (by simp only [List.length_cons, List.length_nil]; omega)).mono fun _ _ ⟨he, a', c', h1, h2⟩ => ⟨he, a', c', h1, ((K0.below_new W _).mono (by have := hW.lt; omega)).trans h2⟩
        clear ez ea hc hsu HW hpn
        go_wp2_with (go_at_call 42; refine (hadd.out _ (wr.heap.size + 1) (by simp) sb).mono ?_; rintro e w4 ⟨rfl, a4, c4, s4, b4⟩)
        go_roundw
        case rel => exact ⟨k + 1, a4, c4, by omega, by go_num, by rw [HS.out, List.length_append]; exact s4, Mb.trans b4⟩
        case measure => simp [intOf]; omega
    · obtain rfl : k = E.length := by omega
      rw [List.take_length] at hsi
      obtain ⟨rE, xE, ME⟩ := HW.out _ hbel
      have z0 := hsi.blk.c0
      have c0 := xE.c0
      have c1' := xE.c1
      have c2 := xE.c2
      have c3 := xE.c3
      have c4 := xE.c4
      have c5 := xE.c5
      have c6 := xE.c6
      have c7 := xE.c7
      have LE := HL.out _ ME
      have rl := hsi.buf.own.row
      have rf := hsi.buf.fits
      have nB := ME.alloc ME.size (.cells #[] 65)
      have HN : Hid ((ok && !(decide ((lefts nm E).length = E.length))) = false → ∀ a c w', Below w.heap.size w w' → Ans (rmZ d mem nm ok E) (rmOk d mem nm ok E) w (.returned (.tuple #[.slice a 0 c, .bool false])) w') := fun h a c w' hb => by
        obtain ⟨r1, r2⟩ := rm_no (d := d) (mem := mem) (nm := nm) (ok := ok) (E := E) h
        rw [r1, r2]
        exact SQ.ans_no hb
      have HY : Hid (ok = true → ¬ (lefts nm E).length = E.length → ∀ e w', Ans (namesZ d mem (lefts nm E)) (namesOk d mem (lefts nm E)) w e w' → Ans (rmZ d mem nm ok E) (rmOk d mem nm ok E) w e w') := fun h1 h2 e w' h => by
        obtain ⟨r1, r2⟩ := rm_yes (d := d) (mem := mem) (nm := nm) h2
        rw [h1, r1, r2]
        exact h
      obtain ⟨Lf, hLf⟩ : ∃ Lf, lefts nm E = Lf := ⟨_, rfl⟩
      rw [hLf] at hpn HN HY rl rf z0
      obtain ⟨nL, hnL⟩ : ∃ nL, Lf.length = nL := ⟨_, rfl⟩
      obtain ⟨nE, hnE⟩ : ∃ nE, E.length = nE := ⟨_, rfl⟩
      rw [hnL] at hpn HN HY rf z0
      rw [hnE] at HN HY ⊢
      clear HW hLf hnL hnE hk hlt hEl rE hsi
      cases ok with
      | false =>
        have HN' := HN.out rfl
        clear HN HY
        go_wp2
        go_ret2
        exact HN' _ _ _ nB
      | true =>
        by_cases hq : nL = nE
        · have HN' := HN.out (by simp [hq])
          subst hq
          clear HN HY
          go_wp2
          go_ret2
          exact HN' _ _ _ nB
        · have HY' := HY.out rfl hq
          have hq2 : ¬ (nL : Int) = (nE : Int) := by omega
          clear HN HY
          go_wp2_with (go_at_call 10; refine (hpn.out _ _ _ LE rl rf).mono ?_; rintro e w5 ⟨a5, c5', rfl, o5, q5, b5⟩; have l5 := ME.trans (b5.mono ME.size))
          go_ret2
          exact HY' _ _ ⟨a5, c5', rfl, o5.mono ME.size, q5, l5⟩

set_option maxHeartbeats 4000000 in
theorem spec_Remove (d : Ln) (s : Sl) (mem nm : ByteArray) (w : World) (hs : mem.size ≤ 281474976710656) (hF : Fit d s) (hpo : d.po.length ≤ 1048576) (hfr : d.fr.length ≤ 1048576) (hR : Lists w d s) :
    Calls Tryz.prog 18 #[N1.val d s, .string mem, .string nm] w (Ans (rmZ d mem nm (nmS d mem) (nmF d mem)) (rmOk d mem nm (nmS d mem) (nmF d mem)) w) := by
  have l0 := K0.below_new w (.cells #[.int .i64 d.ino, .int .i64 d.cl, .int .i64 d.un, .string d.rc, .slice s.a1 d.pg.length s.c1, .string d.sav, .slice s.a2 d.po.length s.c2, .slice s.a3 d.fr.length s.c3] 31)
  have x0 := lb_new d s w 31
  have HL : Hid (∀ W, Below w.heap.size w W → Lists W d s) := fun W hb => hR.below hb
  have hnm : Hid (∀ W, Lists W d s → Calls Tryz.prog 40 #[N1.val d s, .string mem] W (Ans (nmF d mem) (nmS d mem) W)) := fun W h => NE.spec_Names d s mem W hs hF hpo hfr h
  have L0 := HL.out _ l0
  have hEl := NE.nmF_len d mem
  have hEf := NE.nmF_fits d mem
  obtain ⟨E, hE⟩ : ∃ E, nmF d mem = E := ⟨_, rfl⟩
  obtain ⟨ok, hok⟩ : ∃ ok, nmS d mem = ok := ⟨_, rfl⟩
  rw [hE] at hnm hEl hEf ⊢
  rw [hok] at hnm ⊢
  have hpn : Hid (∀ W a c, Lists W d s → T0.Row W a (lefts nm E) → (lefts nm E).length ≤ c → Calls Tryz.prog 7 #[N1.val d s, .string mem, .slice a (lefts nm E).length c] W (Ans (namesZ d mem (lefts nm E)) (namesOk d mem (lefts nm E)) W)) := fun W a c h1 h2 h3 => NN.spec_PutNames d s mem a c (lefts nm E) W hs hF hpo hfr (by have := lefts_len nm E; omega) h3 (lefts_fits hEf) h1 h2
  clear hE hok hR hEf
  go_enter Tryz.func18, Tryz.ntmps18
  go_wp2_with (go_at_call 40; refine (hnm.out _ L0).mono ?_; rintro e w1 ⟨a1, c1, rfl, o1, q1, b1⟩; have l1 := l0.trans (b1.mono l0.size); have x1 := x0.below b1; have n2 := K0.below_new w1 (.cells #[] 57); have s2 := V1.ebuf_made (base := w1.heap.size) w1 (Nat.le_refl _))
  have HW : Hid (∀ W, Below w1.heap.size w1 W → T0.Row W a1 E ∧ LB w.heap.size d s W ∧ Below w.heap.size w W) := fun W hW => ⟨o1.row.below hW, x1.below hW, l1.trans (hW.mono l1.size)⟩
  clear o1 b1 hnm l1 x1 l0 x0 L0
  go_loopw [10, 11] (fun p i w' => ∃ (k : Nat) (a' : Option Addr) (cap' : Nat), k ≤ E.length ∧ i = .int .i64 k ∧ p = .slice a' (lefts nm (E.take k)).length cap' ∧ EBuf w1.heap.size w' a' (lefts nm (E.take k)).length cap' (lefts nm (E.take k)) ∧ Below w1.heap.size w1 w') (fun _ i _ => E.length - (intOf i).toNat)
  case atStart => exact ⟨0, _, _, Nat.zero_le _, rfl, rfl, s2, n2⟩
  case round =>
    obtain ⟨k, a3, cap3, hk, rfl, rfl, hsi, hbel⟩ := hrel
    clear s2 n2
    by_cases hlt : k < E.length
    · obtain ⟨b, off, rfl, hlt0, hc⟩ := (HW.out _ hbel).1.get hlt
      have y1 := (hc k hlt).1
      have y2 := (hc k hlt).2
      have hsu := lefts_succ nm E k hlt
      have hll := lefts_len nm (E.take k)
      have htl : (E.take k).length ≤ E.length := by simp; omega
      obtain ⟨z, ez⟩ : ∃ z, T0.ent E k = z := ⟨_, rfl⟩
      rw [ez] at y1 y2 hsu
      obtain ⟨u, v⟩ := z
      simp only at y1 y2 hsu
      obtain ⟨acc, ea⟩ : ∃ acc, lefts nm (E.take k) = acc := ⟨_, rfl⟩
      rw [ea] at hsi hsu hll ⊢
      have e1 : (0 : Int) ≤ (k : Int) := by omega
      have e2 : (k : Int) < (E.length : Int) := by omega
      have hB := hbel.size
      by_cases hq : (v.toList == nm.toList) = true
      · rw [hq, if_pos rfl] at hsu
        have HS : Hid (lefts nm (E.take (k + 1)) = acc) := hsu
        have hq2 : (v.toList != nm.toList) = false := by simpa using hq
        clear ez ea hc hsu HW hpn
        go_wp2
        go_roundw
        case rel => exact ⟨k + 1, a3, cap3, by omega, by go_num, by rw [HS.out], by rw [HS.out]; exact hsi, hbel⟩
        case measure => simp [intOf]; omega
      · have hq' : (v.toList == nm.toList) = false := by simpa using hq
        rw [hq', if_neg (by decide)] at hsu
        have HS : Hid (lefts nm (E.take (k + 1)) = acc ++ [(u, v)]) := hsu
        have hq2 : (v.toList != nm.toList) = true := by simpa using hq
        clear ez ea hc hsu HW hpn
        go_wp2_with (at_builtin; refine V1.append_ent rfl (.tmp 32) (.tmp 37) rfl hsi u v (by rfl) (H := wr.heap.size) rfl (by rfl) (by omega) hB ?_; intro g4 c4 w4 s4 b4)
        go_roundw
        case rel => exact ⟨k + 1, some ⟨g4, 0, none⟩, c4, by omega, by go_num, by rw [HS.out]; simp, by rw [HS.out, List.length_append]; exact s4, hbel.trans b4⟩
        case measure => simp [intOf]; omega
    · obtain rfl : k = E.length := by omega
      rw [List.take_length] at hsi ⊢
      obtain ⟨rE, xE, ME⟩ := HW.out _ hbel
      have c0 := xE.c0
      have c1' := xE.c1
      have c2 := xE.c2
      have c3 := xE.c3
      have c4 := xE.c4
      have c5 := xE.c5
      have c6 := xE.c6
      have c7 := xE.c7
      have LE := HL.out _ ME
      have rl := hsi.own.row
      have rf := hsi.fits
      have nB := ME.alloc ME.size (.cells #[] 65)
      have HN : Hid ((ok && !(decide ((lefts nm E).length = E.length))) = false → ∀ a c w', Below w.heap.size w w' → Ans (rmZ d mem nm ok E) (rmOk d mem nm ok E) w (.returned (.tuple #[.slice a 0 c, .bool false])) w') := fun h a c w' hb => by
        obtain ⟨r1, r2⟩ := rm_no (d := d) (mem := mem) (nm := nm) (ok := ok) (E := E) h
        rw [r1, r2]
        exact SQ.ans_no hb
      have HY : Hid (ok = true → ¬ (lefts nm E).length = E.length → ∀ e w', Ans (namesZ d mem (lefts nm E)) (namesOk d mem (lefts nm E)) w e w' → Ans (rmZ d mem nm ok E) (rmOk d mem nm ok E) w e w') := fun h1 h2 e w' h => by
        obtain ⟨r1, r2⟩ := rm_yes (d := d) (mem := mem) (nm := nm) h2
        rw [h1, r1, r2]
        exact h
      obtain ⟨Lf, hLf⟩ : ∃ Lf, lefts nm E = Lf := ⟨_, rfl⟩
      rw [hLf] at hpn HN HY rl rf ⊢
      obtain ⟨nL, hnL⟩ : ∃ nL, Lf.length = nL := ⟨_, rfl⟩
      obtain ⟨nE, hnE⟩ : ∃ nE, E.length = nE := ⟨_, rfl⟩
      rw [hnL] at hpn HN HY rf ⊢
      rw [hnE] at HN HY ⊢
      clear HW hLf hnL hnE hk hlt hEl rE hsi
      cases ok with
      | false =>
        have HN' := HN.out rfl
        clear HN HY
        go_wp2
        go_ret2
        exact HN' _ _ _ nB
      | true =>
        by_cases hq : nL = nE
        · have HN' := HN.out (by simp [hq])
          subst hq
          clear HN HY
          go_wp2
          go_ret2
          exact HN' _ _ _ nB
        · have HY' := HY.out rfl hq
          have hq2 : ¬ (nL : Int) = (nE : Int) := by omega
          clear HN HY
          go_wp2_with (go_at_call 7; refine (hpn.out _ _ _ LE rl rf).mono ?_; rintro e w5 ⟨a5, c5', rfl, o5, q5, b5⟩; have l5 := ME.trans (b5.mono ME.size))
          go_ret2
          exact HY' _ _ ⟨a5, c5', rfl, o5.mono ME.size, q5, l5⟩

end Go.Proofs.YtkdjcbmmbjongaaGreat.NR
