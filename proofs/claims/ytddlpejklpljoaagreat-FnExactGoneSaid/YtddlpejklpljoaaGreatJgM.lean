/- Joined texts: plain facts and contracts, as each part says. -/
import Derived.Test.YtddlpejklpljoaaGreatJgJ
import Derived.Deep.RegionHeld3
import Derived.RegionTactic
import Derived.Test.YtddlpejklpljoaaGreatJgL

/- The contract of impl.Load, as the given laws call it. -/
namespace Go.Proofs.YtddlpejklpljoaaGreat.O2
open Go.ChangeShapes Go.WideShapes Go.ChangeAt Go.RowKit
set_option linter.unusedVariables false
set_option linter.unusedSimpArgs false
set_option maxRecDepth 10000

open I0 (val vals)

/-- What Load answers. -/
def Ans (mem : ByteArray) (i : Int) (w : World) (e : Ending) (w' : World) : Prop :=
  ∃ a c, e = .returned (.tuple #[val (O0.lK mem i) (O0.lO mem i) (O0.lS mem i) a (O0.lZ mem i).length c, .string (O0.lD mem i), .bool (O0.isL mem i)]) ∧ J0.Own w.heap.size w' a (O0.lZ mem i) ∧ (O0.lZ mem i).length ≤ c ∧ Below w.heap.size w w'

theorem ans_no {mem : ByteArray} {i : Int} {w w' : World} (h : O0.isL mem i = false) (hb : Below w.heap.size w w') : Ans mem i w (.returned (.tuple #[val 0 0 0 none 0 0, .string ⟨#[]⟩, .bool false])) w' := by
  obtain ⟨h1, h2, h3, h4, h5⟩ := O0.l_no h
  exact ⟨none, 0, by rw [h1, h2, h3, h4, h5, h]; rfl, by rw [h4]; exact Or.inl rfl, by rw [h4]; exact Nat.le_refl _, hb⟩

theorem ans_yes {mem : ByteArray} {i : Int} {w w' : World} {a : Option Addr} {c : Nat} (h : O0.isL mem i = true) (ho : J0.Own w.heap.size w' a (G0.gZ (O0.recd mem i))) (hc : (G0.gZ (O0.recd mem i)).length ≤ c) (hb : Below w.heap.size w w') :
    Ans mem i w (.returned (.tuple #[val (G0.gK (O0.recd mem i)) (G0.gO (O0.recd mem i)) (G0.gS (O0.recd mem i)) a (G0.gZ (O0.recd mem i)).length c, .string ((O0.joined mem (G0.gZ (O0.recd mem i)) (G0.gZ (O0.recd mem i)).length).extract 0 (G0.gS (O0.recd mem i)).toNat), .bool true])) w' := by
  obtain ⟨h1, h2, h3, h4, h5⟩ := O0.l_yes h
  exact ⟨a, c, by rw [h1, h2, h3, h4, h5, h], by rw [h4]; exact ho, by rw [h4]; exact hc, hb⟩

/-- The record, read, where it is none's. -/
theorem read_yes {s : ByteArray} {W : World} (hs : s.size ≤ 281474976710656) (h : G0.isI s = true) {v : Value → Value} (hv : ∀ x, I1.rec (B1.byteAt s 0) x = v x) :
    Calls Tryz.prog 69 #[.string s] W fun e w' => ∃ a c, e = .returned (.tuple #[v (val (G0.gK s) (G0.gO s) (G0.gS s) a (G0.gZ s).length c), .bool true]) ∧ J0.Own W.heap.size w' a (G0.gZ s) ∧ (G0.gZ s).length ≤ c ∧ Below W.heap.size W w' := by
  obtain ⟨e1, e2, e3, e4⟩ := G0.g_yes h
  rw [e1, e2, e3, e4]
  exact G3.read_yes hs h hv

/-- The answer's block and the inode's own. -/
structure Ls (w : World) (B : Nat) (k o s : Int) (a : Option Addr) (zs : List Int) (c : Nat) (W : World) : Prop where
  rs : G3.Rs w a zs W
  nb : K0.Blk B (vals k o s a zs.length c) W
  ne : w.heap.size < B

variable {w W W' : World} {B : Nat} {k o s : Int} {a : Option Addr} {zs : List Int} {c : Nat}

theorem Ls.below (h : Ls w B k o s a zs c W) (hb : Below W.heap.size W W') : Ls w B k o s a zs c W' := ⟨h.rs.below hb, h.nb.below hb, h.ne⟩
theorem Ls.drew (h : Ls w B k o s a zs c W) : Ls w B k o s a zs c W.drew := ⟨⟨h.rs.res.drew, h.rs.own.drew, h.rs.bel.drew⟩, h.nb.drew, h.ne⟩
theorem ls_new (h : G3.Rs w a zs W) : Ls w W.heap.size k o s a zs c (W.alloc (.cells #[.int .i64 k, .int .i64 o, .int .i64 s, .slice a zs.length c] 45)) :=
  ⟨h.below (K0.below_new _ _), K0.blk_new (vals k o s a zs.length c) W 45, h.res.lt⟩

set_option maxHeartbeats 2000000 in
theorem load_kind (T : TypeId) (mem : ByteArray) (i : Int) (w : World) (hm : mem.size = 768) (hI : G0.isI (O0.recd mem i) = true) (hL : O0.isL mem i = true)
    (hT : ∀ x, I1.rec (B1.byteAt (O0.recd mem i) 0) x = .iface T x)
    (hF : ∀ k o s a n c W, Calls Tryz.prog 71 #[.iface T (val k o s a n c)] W fun e w' => e = .returned (.bool false) ∧ Below W.heap.size W w')
    (hO : ∀ k o s a n c W, Calls Tryz.prog 70 #[.iface T (val k o s a n c)] W fun e w' => e = .returned (val k o s a n c) ∧ Below W.heap.size W w') :
    Calls Tryz.prog 29 #[.string mem, .int .i64 i] w (Ans mem i w) := by
  have hms : mem.size ≤ 281474976710656 := by omega
  have g8 : ((mem.size : Int) != 768) = false := by simp; omega
  have hrs := O0.recd_size mem i hms
  have hg := O0.got hI
  have HF : Hid (∀ a c w', J0.Own w.heap.size w' a (G0.gZ (O0.recd mem i)) → (G0.gZ (O0.recd mem i)).length ≤ c → Below w.heap.size w w' → Ans mem i w (.returned (.tuple #[val (G0.gK (O0.recd mem i)) (G0.gO (O0.recd mem i)) (G0.gS (O0.recd mem i)) a (G0.gZ (O0.recd mem i)).length c, .string ((O0.joined mem (G0.gZ (O0.recd mem i)) (G0.gZ (O0.recd mem i)).length).extract 0 (G0.gS (O0.recd mem i)).toNat), .bool true])) w') := fun a c w' => ans_yes hL
  have hr : Hid (∀ W, Calls Tryz.prog 69 #[.string (O0.recd mem i)] W fun e w' => ∃ a c, e = .returned (.tuple #[.iface T (val (G0.gK (O0.recd mem i)) (G0.gO (O0.recd mem i)) (G0.gS (O0.recd mem i)) a (G0.gZ (O0.recd mem i)).length c), .bool true]) ∧ J0.Own W.heap.size w' a (G0.gZ (O0.recd mem i)) ∧ (G0.gZ (O0.recd mem i)).length ≤ c ∧ Below W.heap.size W w') := fun W => read_yes hrs hI hT
  have hpt : Hid (∀ W, Calls Tryz.prog 18 #[.string mem, .int .i64 (L1.recAt i), .int .i64 16] W fun e w' => e = .returned (.string (O0.recd mem i)) ∧ Below W.heap.size W w') := fun W => B2.impl_Part _ _ _ _ hms
  have hFF : Hid (∀ k o s a n c W, Calls Tryz.prog 71 #[.iface T (val k o s a n c)] W fun e w' => e = .returned (.bool false) ∧ Below W.heap.size W w') := hF
  have hOO : Hid (∀ k o s a n c W, Calls Tryz.prog 70 #[.iface T (val k o s a n c)] W fun e w' => e = .returned (val k o s a n c) ∧ Below W.heap.size W w') := hO
  clear hT hI hL hrs hF hO
  obtain ⟨R, hR⟩ : ∃ R, O0.recd mem i = R := ⟨_, rfl⟩
  rw [hR] at hg HF hr hpt
  obtain ⟨K, hK⟩ : ∃ K, G0.gK R = K := ⟨_, rfl⟩
  obtain ⟨O, hO⟩ : ∃ O, G0.gO R = O := ⟨_, rfl⟩
  obtain ⟨S, hS⟩ : ∃ S, G0.gS R = S := ⟨_, rfl⟩
  obtain ⟨Z, hZ⟩ : ∃ Z, G0.gZ R = Z := ⟨_, rfl⟩
  rw [hK, hO, hS, hZ] at HF hr
  rw [hK, hS, hZ] at hg
  obtain ⟨⟨s0, s1⟩, zl, s2, hp, -⟩ := hg
  clear hK hO hS hZ hR
  have hl0 := K0.below_new w (.cells #[.int .i64 0, .int .i64 0, .int .i64 0, .slice none 0 0] 45)
  go_enter Tryz.func29, Tryz.ntmps29
  go_wp2_with (first
    | (go_at_call 19; refine (L1.impl_RecAt _ _).mono ?_; rintro e w' ⟨rfl, rfl⟩)
    | (go_at_call 18; refine (hpt.out _).mono ?_; rintro e w1 ⟨rfl, b1⟩)
    | (go_at_call 69; refine (hr.out _).mono ?_; rintro e w2 ⟨a, c, rfl, ho, hc, b2⟩; have r2 : G3.Rs w a Z w2 := G3.rs_new (b1.trans (b2.mono b1.size)) (ho.mono b1.size))
    | (go_at_call 71; refine (hFF.out _ _ _ _ _ _ _).mono ?_; rintro e w3 ⟨rfl, b3⟩; have r3 := r2.below b3)
    | (go_at_call 70; refine (hOO.out _ _ _ _ _ _ _).mono ?_; rintro e w4 ⟨rfl, b4⟩; have r4 := r3.below b4; have l4 := ls_new (k := K) (o := O) (s := S) (c := c) r4))
  have l5 := l4.drew
  have hRd : P0.Row (w4.alloc (.cells #[.int .i64 K, .int .i64 O, .int .i64 S, .slice a Z.length c] 45)).drew a Z := l5.rs.own.row
  go_region_with ((go_at_call 72; refine (O1.dataOf mem _ _ _ _ _ Z _ hm hp zl s0 s2 hRd).mono ?_; rintro e w5 ⟨rfl, b5⟩; have l6 := l5.below b5; have x0 := l6.nb.c0; have x1 := l6.nb.c1; have x2 := l6.nb.c2; have x3 := l6.nb.c3; have c0 := l6.rs.res.c0; have c1 := l6.rs.res.c1; have c2 := l6.rs.res.c2; have c3 := l6.rs.res.c3; have f0 := l6.rs.res.f0; have f1 := l6.rs.res.f1; have f2 := l6.rs.res.f2; have f3 := l6.rs.res.f3))
  all_goals
    have q := l6.rs.res.put4 (.int .i64 K) (.int .i64 O) (.int .i64 S) (.slice a Z.length c)
    have d := l6.rs.done (.int .i64 K) (.int .i64 O) (.int .i64 S) (.slice a Z.length c)
    go_wp2
    exact bodyPost_ret (v := .tuple #[val K O S a Z.length c, .string ((O0.joined mem Z Z.length).extract 0 S.toNat), .bool true]) (by simp [results, Tryz.results29, go_sem, q.c0, q.c1, q.c2, q.c3]) rfl (HF.out _ _ _ d.1 hc d.2)
end Go.Proofs.YtddlpejklpljoaaGreat.O2

/- The contracts of impl.Load and spec.Load, as the given laws call them. -/
namespace Go.Proofs.YtddlpejklpljoaaGreat.O3
open Go.ChangeShapes Go.WideShapes Go.ChangeAt Go.RowKit
set_option linter.unusedVariables false
set_option linter.unusedSimpArgs false
set_option maxRecDepth 10000

open I0 (val vals)
open O2 (Ans ans_no ans_yes)

set_option maxHeartbeats 2000000 in
theorem impl_Load (mem : ByteArray) (i : Int) (w : World) (hms : mem.size ≤ 281474976710656) : Calls Tryz.prog 29 #[.string mem, .int .i64 i] w (Ans mem i w) := by
  have hrs := O0.recd_size mem i hms
  have hpt : Hid (∀ W, Calls Tryz.prog 18 #[.string mem, .int .i64 (L1.recAt i), .int .i64 16] W fun e w' => e = .returned (.string (O0.recd mem i)) ∧ Below W.heap.size W w') := fun W => B2.impl_Part _ _ _ _ hms
  have hl0 := K0.below_new w (.cells #[.int .i64 0, .int .i64 0, .int .i64 0, .slice none 0 0] 45)
  by_cases hm : mem.size = 768
  · have g8 : ((mem.size : Int) != 768) = false := by simp; omega
    by_cases hI : G0.isI (O0.recd mem i) = true
    · by_cases h0 : B1.byteAt (O0.recd mem i) 0 = 0
      · have HF : Hid (∀ w', Below w.heap.size w w' → Ans mem i w (.returned (.tuple #[val 0 0 0 none 0 0, .string ⟨#[]⟩, .bool false])) w') := fun w' => ans_no (O0.isL_free h0)
        have hr : Hid (∀ W, Calls Tryz.prog 69 #[.string (O0.recd mem i)] W fun e w' => ∃ a c, e = .returned (.tuple #[.iface 137 (val (G0.gK (O0.recd mem i)) (G0.gO (O0.recd mem i)) (G0.gS (O0.recd mem i)) a (G0.gZ (O0.recd mem i)).length c), .bool true]) ∧ J0.Own W.heap.size w' a (G0.gZ (O0.recd mem i)) ∧ (G0.gZ (O0.recd mem i)).length ≤ c ∧ Below W.heap.size W w') := fun W => O2.read_yes hrs hI (fun x => by rw [I1.rec, if_pos h0])
        clear hI h0
        go_enter Tryz.func29, Tryz.ntmps29
        go_wp2_with (first
          | (go_at_call 19; refine (L1.impl_RecAt _ _).mono ?_; rintro e w' ⟨rfl, rfl⟩)
          | (go_at_call 18; refine (hpt.out _).mono ?_; rintro e w1 ⟨rfl, b1⟩)
          | (go_at_call 69; refine (hr.out _).mono ?_; rintro e w2 ⟨a, c, rfl, ho, hc, b2⟩; have r2 : G3.Rs w a _ w2 := G3.rs_new (b1.trans (b2.mono b1.size)) (ho.mono b1.size))
          | (go_at_call 71; refine (G1.isFree0 _ _ _ _ _ _ _ rfl _).mono ?_; rintro e w3 ⟨rfl, b3⟩; have r3 := r2.below b3; have c0 := r3.res.c0; have c1 := r3.res.c1; have c2 := r3.res.c2; have c3 := r3.res.c3; have f0 := r3.res.f0; have f1 := r3.res.f1; have f2 := r3.res.f2; have f3 := r3.res.f3))
        have q := r3.res.put4 (.int .i64 0) (.int .i64 0) (.int .i64 0) (.slice none 0 0)
        have d := r3.done (.int .i64 0) (.int .i64 0) (.int .i64 0) (.slice none 0 0)
        exact bodyPost_ret (v := .tuple #[val 0 0 0 none 0 0, .string ⟨#[]⟩, .bool false]) (by simp [results, Tryz.results29, go_sem, q.c0, q.c1, q.c2, q.c3]) rfl (HF.out _ d.2)
      · have hL := O0.isL_of hm hI h0
        by_cases h1 : B1.byteAt (O0.recd mem i) 0 = 1
        · exact O2.load_kind 134 mem i w hm hI hL (fun x => by rw [I1.rec, if_neg h0, if_pos h1]) (fun k o s a n c W => G1.isFree1 _ k o s a n c rfl W) (fun k o s a n c W => G1.inodeOf1 k o s a n c W)
        · have h2 : B1.byteAt (O0.recd mem i) 0 = 2 := by
            have := R0.ok_bounds (G0.isI_ok hI).2.2
            omega
          exact O2.load_kind 136 mem i w hm hI hL (fun x => by rw [I1.rec, if_neg h0, if_neg h1, if_pos h2]) (fun k o s a n c W => G1.isFree2 _ k o s a n c rfl W) (fun k o s a n c W => G1.inodeOf2 k o s a n c W)
    · have hI' : G0.isI (O0.recd mem i) = false := by simpa using hI
      have HF : Hid (∀ w', Below w.heap.size w w' → Ans mem i w (.returned (.tuple #[val 0 0 0 none 0 0, .string ⟨#[]⟩, .bool false])) w') := fun w' => ans_no (O0.isL_rec hI')
      have hr : Hid (∀ W, Calls Tryz.prog 69 #[.string (O0.recd mem i)] W fun e w' => e = .returned (.tuple #[.nilIface, .bool false]) ∧ Below W.heap.size W w') := fun W => G3.read_no hrs hI'
      clear hI hI'
      go_enter Tryz.func29, Tryz.ntmps29
      go_wp2_with (first
        | (go_at_call 19; refine (L1.impl_RecAt _ _).mono ?_; rintro e w' ⟨rfl, rfl⟩)
        | (go_at_call 18; refine (hpt.out _).mono ?_; rintro e w1 ⟨rfl, b1⟩)
        | (go_at_call 69; refine (hr.out _).mono ?_; rintro e w2 ⟨rfl, b2⟩; have r2 : G3.Rs w none [] w2 := G3.rs_new (b1.trans (b2.mono b1.size)) (Or.inl rfl); have c0 := r2.res.c0; have c1 := r2.res.c1; have c2 := r2.res.c2; have c3 := r2.res.c3; have f0 := r2.res.f0; have f1 := r2.res.f1; have f2 := r2.res.f2; have f3 := r2.res.f3))
      have q := r2.res.put4 (.int .i64 0) (.int .i64 0) (.int .i64 0) (.slice none 0 0)
      have d := r2.done (.int .i64 0) (.int .i64 0) (.int .i64 0) (.slice none 0 0)
      exact bodyPost_ret (v := .tuple #[val 0 0 0 none 0 0, .string ⟨#[]⟩, .bool false]) (by simp [results, Tryz.results29, go_sem, q.c0, q.c1, q.c2, q.c3]) rfl (HF.out _ d.2)
  · have g8 : ((mem.size : Int) != 768) = true := by simp; omega
    have HF : Hid (∀ w', Below w.heap.size w w' → Ans mem i w (.returned (.tuple #[val 0 0 0 none 0 0, .string ⟨#[]⟩, .bool false])) w') := fun w' => ans_no (O0.isL_size hm)
    go_enter Tryz.func29, Tryz.ntmps29
    go_wp2
    refine bodyPost_ret (v := .tuple #[val 0 0 0 none 0 0, .string ⟨#[]⟩, .bool false]) (by simp [results, Tryz.results29, go_sem]) rfl (HF.out _ ?_)
    go_grown

open O2 (Ls ls_new)

set_option maxHeartbeats 4000000 in
theorem spec_Load (mem : ByteArray) (i : Int) (w : World) (hms : mem.size ≤ 281474976710656) : Calls Tryz.prog 100 #[.string mem, .int .i64 i] w (Ans mem i w) := by
  have hrs := O0.recd_size mem i hms
  have hG : Hid (∀ W, Calls Tryz.prog 53 #[.string (O0.recd mem i)] W (G3.Ans (O0.recd mem i) W)) := fun W => G4.spec_GetInode _ _ hrs
  have hRc : Hid (∀ W, Calls Tryz.prog 63 #[.string mem, .int .i64 i] W fun e w' => e = .returned (.string (O0.recd mem i)) ∧ w' = W) := fun W => O1.l03Rec mem i W hms
  by_cases hL : O0.isL mem i = true
  · have hl := hL
    simp only [O0.isL, Bool.and_eq_true, decide_eq_true_eq, Bool.not_eq_true'] at hl
    obtain ⟨hm, hI, hk⟩ := hl
    have hk' : ¬ B1.byteAt (O0.recd mem i) 0 = 0 := of_decide_eq_false hk
    have g8 : ((mem.size : Int) != 768) = false := by simp; omega
    have hg := O0.got hI
    have hK0 : (G0.gK (O0.recd mem i) == 0) = false := by
      rw [(G0.g_yes hI).1]
      simpa using hk'
    have HF : Hid (∀ a c w', J0.Own w.heap.size w' a (G0.gZ (O0.recd mem i)) → (G0.gZ (O0.recd mem i)).length ≤ c → Below w.heap.size w w' → Ans mem i w (.returned (.tuple #[val (G0.gK (O0.recd mem i)) (G0.gO (O0.recd mem i)) (G0.gS (O0.recd mem i)) a (G0.gZ (O0.recd mem i)).length c, .string ((O0.joined mem (G0.gZ (O0.recd mem i)) (G0.gZ (O0.recd mem i)).length).extract 0 (G0.gS (O0.recd mem i)).toNat), .bool true])) w') := fun a c w' => ans_yes hL
    have hA : Hid (∀ W e w', G3.Ans (O0.recd mem i) W e w' → ∃ a c, e = .returned (.tuple #[val (G0.gK (O0.recd mem i)) (G0.gO (O0.recd mem i)) (G0.gS (O0.recd mem i)) a (G0.gZ (O0.recd mem i)).length c, .bool true]) ∧ J0.Own W.heap.size w' a (G0.gZ (O0.recd mem i)) ∧ (G0.gZ (O0.recd mem i)).length ≤ c ∧ Below W.heap.size W w') := fun W e w' ⟨a, c, he, ho, hc, hb⟩ => ⟨a, c, by rw [he, hI], ho, hc, hb⟩
    clear hk hk' hL hI hrs
    obtain ⟨R, hR⟩ : ∃ R, O0.recd mem i = R := ⟨_, rfl⟩
    rw [hR] at hg HF hA hG hRc hK0
    obtain ⟨K, hK⟩ : ∃ K, G0.gK R = K := ⟨_, rfl⟩
    obtain ⟨O, hO⟩ : ∃ O, G0.gO R = O := ⟨_, rfl⟩
    obtain ⟨S, hS⟩ : ∃ S, G0.gS R = S := ⟨_, rfl⟩
    obtain ⟨Z, hZ⟩ : ∃ Z, G0.gZ R = Z := ⟨_, rfl⟩
    rw [hK, hO, hS, hZ] at HF hA
    rw [hK, hS, hZ] at hg
    rw [hK] at hK0
    obtain ⟨⟨s0, s1⟩, zl, s2, hp, -⟩ := hg
    clear hK hO hS hZ hR
    go_enter Tryz.func100, Tryz.ntmps100
    go_wp2_with (first
      | (go_at_call 63; refine (hRc.out _).mono ?_; rintro e w' ⟨rfl, rfl⟩)
      | (go_at_call 53; refine (hG.out _).mono ?_; intro e w1 hans; obtain ⟨a, c, rfl, ho, hc, b1⟩ := hA.out _ _ _ hans; clear hans; have r1 : G3.Rs w a Z w1 := G3.rs_new b1 ho; have l1 := ls_new (k := K) (o := O) (s := S) (c := c) r1))
    obtain ⟨W1, hW1⟩ : ∃ W1, w1.alloc (.cells #[.int .i64 K, .int .i64 O, .int .i64 S, .slice a Z.length c] 45) = W1 := ⟨_, rfl⟩
    rw [hW1] at l1 ⊢
    have x0 := l1.nb.c0
    have x1 := l1.nb.c1
    have x2 := l1.nb.c2
    have x3 := l1.nb.c3
    clear hW1 b1 ho r1
    go_loop [9, 10] (fun t j => ∃ k : Nat, k ≤ Z.length ∧ j = .int .i64 k ∧ t = .string (O0.joined mem Z k)) (fun _ j => Z.length - (intOf j).toNat)
    case atStart => exact ⟨0, Nat.zero_le _, rfl, rfl⟩
    case round =>
      obtain ⟨k, hk, rfl, rfl⟩ := hrel
      have hjs := O0.joined_size hm hp k hk
      by_cases hlt : k < Z.length
      · obtain ⟨b, off, rfl, hb, hcell⟩ := l1.rs.own.row.get hlt
        have y1 := hcell k hlt
        have hz := R0.pages_bounds hp hlt
        have hu : O0.joined mem Z (k + 1) = O0.joined mem Z k ++ B2.part mem (Z.getD k 0 * 32) 32 := rfl
        obtain ⟨z, ez⟩ : ∃ z, Z.getD k 0 = z := ⟨_, rfl⟩
        rw [ez] at y1 hz hu
        have hps := O0.page_size hm hz.1 hz.2
        have e1 : (0 : Int) ≤ (k : Int) := by omega
        have e2 : (k : Int) < (Z.length : Int) := by omega
        have zz : 32 * k + 32 ≤ 9223372036854775807 := by omega
        have hpg : Hid (∀ W, Calls Tryz.prog 46 #[.string mem, .int .i64 z] W fun e w' => e = .returned (.string (B2.part mem (z * 32) 32)) ∧ W = w') := fun W => (O1.l03Page mem z W hms hz.1 hz.2).mono fun _ _ h => ⟨h.1, h.2.symm⟩
        have HU : Hid (O0.joined mem Z (k + 1) = O0.joined mem Z k ++ B2.part mem (z * 32) 32) := hu
        clear hu ez hcell hz
        go_wp2_with (go_at_call 46; refine (hpg.out _).mono ?_; rintro e w' ⟨rfl, rfl⟩)
        go_round
        case rel => exact ⟨k + 1, by omega, by go_num, by rw [HU.out]⟩
        case measure => simp [intOf]; omega
      · obtain rfl : k = Z.length := by omega
        have i1 : S ≤ 32 * (Z.length : Int) := s2
        have c0 := l1.rs.res.c0
        have c1 := l1.rs.res.c1
        have c2 := l1.rs.res.c2
        have c3 := l1.rs.res.c3
        have f0 := l1.rs.res.f0
        have f1 := l1.rs.res.f1
        have f2 := l1.rs.res.f2
        have f3 := l1.rs.res.f3
        have i2 : S ≤ ((32 * Z.length : Nat) : Int) := by omega
        have hnb := (((l1.nb.setOther (B' := w.heap.size) (by have := l1.ne; omega) 0 (.int .i64 K)).setOther (B' := w.heap.size) (by have := l1.ne; omega) 1 (.int .i64 O)).setOther (B' := w.heap.size) (by have := l1.ne; omega) 2 (.int .i64 S)).setOther (B' := w.heap.size) (by have := l1.ne; omega) 3 (.slice a Z.length c)
        have y2 := hnb.c2
        clear hnb
        go_wp2
        go_region
        all_goals
          have q := l1.rs.res.put4 (.int .i64 K) (.int .i64 O) (.int .i64 S) (.slice a Z.length c)
          have d := l1.rs.done (.int .i64 K) (.int .i64 O) (.int .i64 S) (.slice a Z.length c)
          go_wp2
          refine bodyPost_ret (v := .tuple #[val K O S a Z.length c, .string ((O0.joined mem Z Z.length).extract 0 S.toNat), .bool true]) (by simp [results, Tryz.results100, go_sem, q.c0, q.c1, q.c2, q.c3]) rfl (HF.out _ _ _ ?_ hc ?_)
          · exact d.1.drew
          · exact d.2.drew
  · have hL' : O0.isL mem i = false := by simpa using hL
    have HF : Hid (∀ w', Below w.heap.size w w' → Ans mem i w (.returned (.tuple #[val 0 0 0 none 0 0, .string ⟨#[]⟩, .bool false])) w') := fun w' => ans_no hL'
    have hA : Hid (∀ W e w', G3.Ans (O0.recd mem i) W e w' → ∃ a c, e = .returned (.tuple #[val (G0.gK (O0.recd mem i)) (G0.gO (O0.recd mem i)) (G0.gS (O0.recd mem i)) a (G0.gZ (O0.recd mem i)).length c, .bool (G0.isI (O0.recd mem i))]) ∧ J0.Own W.heap.size w' a (G0.gZ (O0.recd mem i)) ∧ (G0.gZ (O0.recd mem i)).length ≤ c ∧ Below W.heap.size W w') := fun W e w' h => h
    have hcase : ((mem.size : Int) != 768) = true ∨ (((mem.size : Int) != 768) = false ∧ G0.isI (O0.recd mem i) = false) ∨ (((mem.size : Int) != 768) = false ∧ G0.isI (O0.recd mem i) = true ∧ (G0.gK (O0.recd mem i) == 0) = true) := by
      by_cases hm : mem.size = 768
      · right
        have g8 : ((mem.size : Int) != 768) = false := by simp; omega
        cases hI : G0.isI (O0.recd mem i) with
        | false => exact Or.inl ⟨g8, rfl⟩
        | true =>
          refine Or.inr ⟨g8, rfl, ?_⟩
          rw [(G0.g_yes hI).1]
          by_cases h0 : B1.byteAt (O0.recd mem i) 0 = 0
          · simpa using h0
          · rw [O0.isL_of hm hI h0] at hL'
            cases hL'
      · left
        simp
        omega
    clear hL hL' hrs
    obtain ⟨R, hR⟩ : ∃ R, O0.recd mem i = R := ⟨_, rfl⟩
    rw [hR] at hA hG hRc hcase
    obtain ⟨K, hK⟩ : ∃ K, G0.gK R = K := ⟨_, rfl⟩
    obtain ⟨O, hO⟩ : ∃ O, G0.gO R = O := ⟨_, rfl⟩
    obtain ⟨S, hS⟩ : ∃ S, G0.gS R = S := ⟨_, rfl⟩
    obtain ⟨Z, hZ⟩ : ∃ Z, G0.gZ R = Z := ⟨_, rfl⟩
    rw [hK, hO, hS, hZ] at hA
    rw [hK] at hcase
    clear hK hO hS hZ hR
    rcases hcase with g8 | ⟨g8, gI⟩ | ⟨g8, gI, gK⟩
    all_goals
      go_enter Tryz.func100, Tryz.ntmps100
      go_wp2_with (first
        | (go_at_call 63; refine (hRc.out _).mono ?_; rintro e w' ⟨rfl, rfl⟩)
        | (go_at_call 53; refine (hG.out _).mono ?_; intro e w1 hans; obtain ⟨a, c, rfl, ho, hc, b1⟩ := hA.out _ _ _ hans; clear hans; have r1 : G3.Rs w a Z w1 := G3.rs_new b1 ho; have l1 := ls_new (k := K) (o := O) (s := S) (c := c) r1; have x0 := l1.nb.c0; have c0 := l1.rs.res.c0; have c1 := l1.rs.res.c1; have c2 := l1.rs.res.c2; have c3 := l1.rs.res.c3; have f0 := l1.rs.res.f0; have f1 := l1.rs.res.f1; have f2 := l1.rs.res.f2; have f3 := l1.rs.res.f3))
      have q := l1.rs.res.put4 (.int .i64 0) (.int .i64 0) (.int .i64 0) (.slice none 0 0)
      have d := l1.rs.done (.int .i64 0) (.int .i64 0) (.int .i64 0) (.slice none 0 0)
      exact bodyPost_ret (v := .tuple #[val 0 0 0 none 0 0, .string ⟨#[]⟩, .bool false]) (by simp [results, Tryz.results100, go_sem, q.c0, q.c1, q.c2, q.c3]) rfl (HF.out _ d.2)
end Go.Proofs.YtddlpejklpljoaaGreat.O3

/- Contracts of spec.l05Before and spec.l05Now, and what an append of a row keeps. -/
namespace Go.Proofs.YtddlpejklpljoaaGreat.D7
open Go.ChangeShapes Go.WideShapes Go.ChangeAt Go.RowKit
set_option linter.unusedVariables false
set_option linter.unusedSimpArgs false
set_option maxRecDepth 10000

open N0 (Ln)
open N1 (Sl LB lb_new)
open J0 (IBuf Own)
open I2 (ints)
open D0 (inos)
open D1 (nodeE data)

set_option maxHeartbeats 2000000 in
theorem l05Before (d : Ln) (s : Sl) (w : World) (hrs : d.rc.size ≤ 281474976710656) (hss : d.sav.size ≤ 281474976710656) (hI : G0.isI d.rc = true) :
    Calls Tryz.prog 65 #[N1.val d s] w fun e w' => ∃ a' c', e = .returned (.slice a' (inos (N5.oldE d)).length c') ∧ Own w.heap.size w' a' (inos (N5.oldE d)) ∧ Below w.heap.size w w' := by
  have k0 := lb_new d s w 26
  have l0 := K0.below_new w (.cells #[.int .i64 d.ino, .int .i64 d.cl, .int .i64 d.un, .string d.rc, .slice s.a1 d.pg.length s.c1, .string d.sav, .slice s.a2 d.po.length s.c2, .slice s.a3 d.fr.length s.c3] 26)
  obtain ⟨⟨gs0, gs1⟩, -, -, -, -⟩ := O0.got hI
  have hsm : d.sav.size ≤ maxLen := by unfold maxLen; omega
  have hG : Hid (∀ W, Calls Tryz.prog 53 #[.string d.rc] W fun e w' => ∃ a c, e = .returned (.tuple #[I0.val (G0.gK d.rc) (G0.gO d.rc) (G0.gS d.rc) a (G0.gZ d.rc).length c, .bool (G0.isI d.rc)]) ∧ Own W.heap.size w' a (G0.gZ d.rc) ∧ (G0.gZ d.rc).length ≤ c ∧ Below W.heap.size W w') := fun W => G4.spec_GetInode _ W hrs
  have hpt : Hid (∀ W, Calls Tryz.prog 57 #[.string d.sav, .int .i64 0, .int .i64 (G0.gS d.rc)] W fun e w' => e = .returned (.string (B2.part d.sav 0 (G0.gS d.rc))) ∧ w' = W) := fun W => B2.spec_Part _ _ _ _ hsm (by decide) (N11.wf_of _ (by omega) (by omega))
  have hgd : Hid (∀ W, Calls Tryz.prog 56 #[.string (B2.part d.sav 0 (G0.gS d.rc))] W fun e w' => ∃ a c, e = .returned (.tuple #[.slice a (V0.dE (B2.part d.sav 0 (G0.gS d.rc))).length c, .bool (V0.isD (B2.part d.sav 0 (G0.gS d.rc)))]) ∧ T0.Row w' a (V0.dE (B2.part d.sav 0 (G0.gS d.rc))) ∧ Below W.heap.size W w') := fun W => (V3.spec_GetDir _ W (Nat.le_trans (B2.part_size _ _ _) hss)).mono fun e w' ⟨a, c, he, ho, _, hb⟩ => ⟨a, c, he, ho.row, hb⟩
  rw [hI] at hG
  have hEl := D6.oldE_len d
  by_cases h2 : G0.gK d.rc = 2
  · have hE : N5.oldE d = V0.dE (B2.part d.sav 0 (G0.gS d.rc)) := by rw [N5.oldE, if_pos h2]
    rw [hE] at hEl ⊢
    obtain ⟨P, hP⟩ : ∃ P, B2.part d.sav 0 (G0.gS d.rc) = P := ⟨_, rfl⟩
    rw [hP] at hpt hgd hEl ⊢
    obtain ⟨E, hE2⟩ : ∃ E, V0.dE P = E := ⟨_, rfl⟩
    rw [hE2] at hgd hEl ⊢
    obtain ⟨b, hb0⟩ : ∃ b, V0.isD P = b := ⟨_, rfl⟩
    rw [hb0] at hgd
    obtain ⟨Z, hZ⟩ : ∃ Z, G0.gZ d.rc = Z := ⟨_, rfl⟩
    obtain ⟨K, hK⟩ : ∃ K, G0.gK d.rc = K := ⟨_, rfl⟩
    obtain ⟨O, hO⟩ : ∃ O, G0.gO d.rc = O := ⟨_, rfl⟩
    obtain ⟨S, hS⟩ : ∃ S, G0.gS d.rc = S := ⟨_, rfl⟩
    rw [hZ, hK, hO, hS] at hG
    rw [hS] at hpt
    rw [hK] at h2
    have g2 : (K != 2) = false := by simpa using h2
    clear hP hE2 hb0 hZ hK hO hS hE h2 hI gs0 gs1
    go_enter Tryz.func65, Tryz.ntmps65
    go_wp2_with (first
      | (go_at_call 53; refine (hG.out _).mono ?_; rintro e w1 ⟨a, c, rfl, ho, hc, b1⟩; have n1 := K0.below_new w1 (.cells #[.int .i64 K, .int .i64 O, .int .i64 S, .slice a Z.length c] 45); have k1 := (k0.below b1).below n1; have l1 := (l0.trans (b1.mono l0.size)).trans (n1.mono (Nat.le_trans l0.size b1.size)); have c5 := k1.c5)
      | (go_at_call 57; refine (hpt.out _).mono ?_; rintro e wq ⟨rfl, eq⟩; subst wq)
      | (go_at_call 56; refine (hgd.out _).mono ?_; rintro e w2 ⟨a2, c2, rfl, r2, b2⟩; have l2 := l1.trans (b2.mono l1.size))
      | (go_at_call 99; refine (D0.l05Inos a2 c2 E _ (by omega) r2).mono ?_; rintro e w3 ⟨a3, c3, rfl, o3, hc3, b3⟩))
    go_ret
    exact ⟨a3, c3, rfl, o3.mono l2.size, l2.trans (b3.mono l2.size)⟩
  · have hE : N5.oldE d = [] := by rw [N5.oldE, if_neg h2]
    rw [hE]
    obtain ⟨Z, hZ⟩ : ∃ Z, G0.gZ d.rc = Z := ⟨_, rfl⟩
    obtain ⟨K, hK⟩ : ∃ K, G0.gK d.rc = K := ⟨_, rfl⟩
    obtain ⟨O, hO⟩ : ∃ O, G0.gO d.rc = O := ⟨_, rfl⟩
    obtain ⟨S, hS⟩ : ∃ S, G0.gS d.rc = S := ⟨_, rfl⟩
    rw [hZ, hK, hO, hS] at hG
    rw [hK] at h2
    have g2 : (K != 2) = true := by simpa using h2
    clear hZ hK hO hS hE h2 hI gs0 gs1 hpt hgd hEl
    go_enter Tryz.func65, Tryz.ntmps65
    go_wp2_with (go_at_call 53; refine (hG.out _).mono ?_; rintro e w1 ⟨a, c, rfl, ho, hc, b1⟩; have n1 := K0.below_new w1 (.cells #[.int .i64 K, .int .i64 O, .int .i64 S, .slice a Z.length c] 45); have l1 := (l0.trans (b1.mono l0.size)).trans (n1.mono (Nat.le_trans l0.size b1.size)))
    go_ret
    exact ⟨_, _, rfl, Or.inl rfl, l1.alloc l1.size _⟩

/-- The bytes of a directory are right. -/
def nowOk (mem : ByteArray) (i : Int) : Bool := !decide (G0.gK (O0.recd mem i) = 2) || V0.isD (data mem i)

theorem isL_of {mem : ByteArray} {i : Int} (hm : mem.size = 768) (hI : G0.isI (O0.recd mem i) = true) (hk : G0.gK (O0.recd mem i) ≠ 0) : O0.isL mem i = true := by
  obtain ⟨e1, -, -, -⟩ := G0.g_yes hI
  rw [O0.isL, decide_eq_true hm, hI, Bool.true_and, Bool.true_and, decide_eq_false (by rw [← e1]; exact hk)]
  rfl

set_option maxHeartbeats 2000000 in
theorem l05Now (mem : ByteArray) (d : Ln) (s : Sl) (w : World) (hm : mem.size = 768) (hI : G0.isI (O0.recd mem d.ino) = true) (hk : G0.gK (O0.recd mem d.ino) ≠ 0) :
    Calls Tryz.prog 66 #[.string mem, N1.val d s] w fun e w' => ∃ a' c', e = .returned (.tuple #[.slice a' (inos (nodeE mem d.ino)).length c', .bool (nowOk mem d.ino)]) ∧ Own w.heap.size w' a' (inos (nodeE mem d.ino)) ∧ Below w.heap.size w w' := by
  have k0 := lb_new d s w 26
  have l0 := K0.below_new w (.cells #[.int .i64 d.ino, .int .i64 d.cl, .int .i64 d.un, .string d.rc, .slice s.a1 d.pg.length s.c1, .string d.sav, .slice s.a2 d.po.length s.c2, .slice s.a3 d.fr.length s.c3] 26)
  obtain ⟨e1, e2, e3, e4, e5⟩ := O0.l_yes (isL_of hm hI hk)
  have e5' : O0.lD mem d.ino = data mem d.ino := e5
  have hG : Hid (∀ W, Calls Tryz.prog 100 #[.string mem, .int .i64 d.ino] W fun e w' => ∃ a c, e = .returned (.tuple #[I0.val (G0.gK (O0.recd mem d.ino)) (O0.lO mem d.ino) (O0.lS mem d.ino) a (O0.lZ mem d.ino).length c, .string (data mem d.ino), .bool (O0.isL mem d.ino)]) ∧ Below W.heap.size W w') := fun W => (O3.spec_Load mem d.ino W (by omega)).mono fun e w' ⟨a, c, he, ho, hc, hb⟩ => ⟨a, c, by rw [he, e1, e5'], hb⟩
  have hgd : Hid (∀ W, Calls Tryz.prog 56 #[.string (data mem d.ino)] W fun e w' => ∃ a c, e = .returned (.tuple #[.slice a (V0.dE (data mem d.ino)).length c, .bool (V0.isD (data mem d.ino))]) ∧ T0.Row w' a (V0.dE (data mem d.ino)) ∧ Below W.heap.size W w') := fun W => (V3.spec_GetDir _ W (D1.data_le mem d.ino hm)).mono fun e w' ⟨a, c, he, ho, _, hb⟩ => ⟨a, c, he, ho.row, hb⟩
  have hEl := D6.nodeE_len mem d.ino
  obtain ⟨Z, hZ⟩ : ∃ Z, O0.lZ mem d.ino = Z := ⟨_, rfl⟩
  obtain ⟨O, hO⟩ : ∃ O, O0.lO mem d.ino = O := ⟨_, rfl⟩
  obtain ⟨S, hS⟩ : ∃ S, O0.lS mem d.ino = S := ⟨_, rfl⟩
  obtain ⟨bl, hbl⟩ : ∃ b, O0.isL mem d.ino = b := ⟨_, rfl⟩
  rw [hZ, hO, hS, hbl] at hG
  clear e1 e2 e3 e4 e5 e5' hZ hO hS hbl
  by_cases h2 : G0.gK (O0.recd mem d.ino) = 2
  · have hE : nodeE mem d.ino = V0.dE (data mem d.ino) := by rw [nodeE, if_pos h2]
    have hN : nowOk mem d.ino = V0.isD (data mem d.ino) := by rw [nowOk, decide_eq_true h2]; rfl
    rw [hE] at hEl
    rw [hE, hN]
    obtain ⟨P, hP⟩ : ∃ P, data mem d.ino = P := ⟨_, rfl⟩
    rw [hP] at hG hgd hEl ⊢
    obtain ⟨E, hE2⟩ : ∃ E, V0.dE P = E := ⟨_, rfl⟩
    rw [hE2] at hgd hEl ⊢
    obtain ⟨b, hb0⟩ : ∃ b, V0.isD P = b := ⟨_, rfl⟩
    rw [hb0] at hgd ⊢
    obtain ⟨K, hK⟩ : ∃ K, G0.gK (O0.recd mem d.ino) = K := ⟨_, rfl⟩
    rw [hK] at hG h2
    have g2 : (K != 2) = false := by simpa using h2
    clear hP hE2 hb0 hK hE hN h2 hI hk
    go_enter Tryz.func66, Tryz.ntmps66
    go_wp2_with (first
      | (go_at_call 100; refine (hG.out _).mono ?_; rintro e w1 ⟨a, c, rfl, b1⟩; have n1 := K0.below_new w1 (.cells #[.int .i64 K, .int .i64 O, .int .i64 S, .slice a Z.length c] 45); have l1 := (l0.trans (b1.mono l0.size)).trans (n1.mono (Nat.le_trans l0.size b1.size)))
      | (go_at_call 56; refine (hgd.out _).mono ?_; rintro e w2 ⟨a2, c2, rfl, r2, b2⟩; have l2 := l1.trans (b2.mono l1.size))
      | (go_at_call 99; refine (D0.l05Inos a2 c2 E _ (by omega) r2).mono ?_; rintro e w3 ⟨a3, c3, rfl, o3, hc3, b3⟩))
    go_ret2
    exact ⟨a3, c3, rfl, o3.mono l2.size, l2.trans (b3.mono l2.size)⟩
  · have hE : nodeE mem d.ino = [] := by rw [nodeE, if_neg h2]
    have hN : nowOk mem d.ino = true := by rw [nowOk, decide_eq_false h2]; rfl
    rw [hE, hN]
    obtain ⟨P, hP⟩ : ∃ P, data mem d.ino = P := ⟨_, rfl⟩
    rw [hP] at hG
    obtain ⟨K, hK⟩ : ∃ K, G0.gK (O0.recd mem d.ino) = K := ⟨_, rfl⟩
    rw [hK] at hG h2
    have g2 : (K != 2) = true := by simpa using h2
    clear hP hK hE hN h2 hI hk hgd hEl
    go_enter Tryz.func66, Tryz.ntmps66
    go_wp2_with (go_at_call 100; refine (hG.out _).mono ?_; rintro e w1 ⟨a, c, rfl, b1⟩; have n1 := K0.below_new w1 (.cells #[.int .i64 K, .int .i64 O, .int .i64 S, .slice a Z.length c] 45); have l1 := (l0.trans (b1.mono l0.size)).trans (n1.mono (Nat.le_trans l0.size b1.size)))
    go_ret2
    exact ⟨_, _, rfl, Or.inl rfl, l1.alloc l1.size _⟩

section
variable {base n cap : Nat} {a : Option Addr} {w W : World} {zs : List Int}

/-- What an append of a row makes. -/
theorem run_rows (ty : TypeId) (hbuf : IBuf base w a n cap zs) (ax : Option Addr) (cx : Nat) (xs : List Int) (hR : P0.Row w ax xs) (hlen : n + xs.length ≤ 4194304) (hb : base ≤ w.heap.size) :
    ∃ a' cap' w', (Builtin.append_ #[24, 24] ty #[.slice a n cap, .slice ax xs.length cx]).run Tryz.prog w = .ok (.slice a' (n + xs.length) cap') w' ∧ IBuf base w' a' (n + xs.length) cap' (zs ++ xs) ∧ w.grownBy w' (Value.slice a n cap).ownBlock ∧ (∀ g, (Value.slice a' (n + xs.length) cap').ownBlock = some g → (Value.slice a n cap).ownBlock = some g ∨ g = w.heap.size) := by
  obtain ⟨i0, hi, hz0, hz1, hz2⟩ := info_parts I2.info3
  by_cases h0 : xs = []
  · subst h0
    refine ⟨a, cap, w, Q1.run_append_none w 24 _ 3 i0 Tryz.underlying24 hi a n cap hbuf.fits ax cx, by rw [List.append_nil]; exact hbuf, ⟨rfl, rfl, rfl, Nat.le_refl _, fun _ _ _ => rfl⟩, fun g hg => Or.inl ?_⟩
    cases a with
    | none => cases hg
    | some p => exact hg
  · rcases hR with hR | ⟨b, off, rfl, hb2, hc⟩
    · exact absurd hR h0
    · have hm : 0 < xs.length := List.length_pos_iff.2 h0
      obtain ⟨g, cp, w', hrun, r1, r2, r3, r4⟩ := run_append_lies (P := Tryz.prog) w 24 ty base 3 i0 (.int .i64 0) 1 8 Tryz.underlying24 hi hz0 hz1 hz2 rfl (by omega) _ n _ hbuf.2 ⟨b, off, none⟩ xs.length cx (ints xs) (by simp) (by
        intro j u hj
        have hj' : j < xs.length := by
          have := (List.getElem?_eq_some_iff.1 hj).1
          simpa using this
        rw [B0.add_off, hc j hj', P0.getD_get _ _ hj', ← hj]
        simp [hj']) (Q1.ints_one xs) hm (by unfold maxLen; omega) (by omega) hb _ rfl
      refine ⟨some ⟨g, 0, none⟩, cp, w', hrun, ⟨by rw [hbuf.1]; simp, ?_⟩, r2, fun g2 h2 => ?_⟩
      · rw [show ints (zs ++ xs) = ints zs ++ ints xs by simp]
        exact r1
      · cases h2
        exact r3

theorem run_below (hbuf : IBuf base w a n cap zs) (hb : base ≤ w.heap.size) (hg : w.grownBy W (Value.slice a n cap).ownBlock) : Below base w W := F0.below_grown (Below.refl _ _) hg (J0.own_block hbuf) hb

theorem own_grown {b : Nat} {r : Option Nat} (h : Own b w a zs) (hg : w.grownBy W r) (hne : ∀ g, a = some ⟨g, 0, none⟩ → r ≠ some g) : Own b W a zs := by
  rcases h with h | ⟨g, e, hbg, hk⟩
  · exact Or.inl h
  · refine Or.inr ⟨g, e, hbg, ?_⟩
    have hb : W.heap[g]? = w.heap[g]? := hg.block g hk.lt (fun q => hne g e q.symm)
    exact ⟨fun j hj => (World.cell?_of_block (a := ⟨g, j, none⟩) hb).trans (hk.cell j hj), fun j hj => (World.frozen?_of_block (a := ⟨g, j, none⟩) hb).trans (hk.free j hj), Nat.lt_of_lt_of_le hk.lt hg.size⟩

theorem blk_grown {B : Nat} {vs : List Value} {r : Option Nat} (hk : K0.Blk B vs w) (hg : w.grownBy W r) (hne : r ≠ some B) : K0.Blk B vs W := by
  have hb : W.heap[B]? = w.heap[B]? := hg.block B hk.lt (fun q => hne q.symm)
  exact ⟨fun j hj => (World.cell?_of_block (a := ⟨B, j, none⟩) hb).trans (hk.cell j hj), fun j hj => (World.frozen?_of_block (a := ⟨B, j, none⟩) hb).trans (hk.free j hj), Nat.lt_of_lt_of_le hk.lt hg.size⟩

/-- 'list = append(list, others...)', and what it keeps. -/
theorem append_rows2 {ops : Array Oper} {rest : List Oper} {o : Oper} {A : Act} {Q : Exit → Act → World → Prop} (hgd : o.guard = none) (sl x : Operand)
    (ho : o.op = .call { callee := .builtin .append, args := #[sl, x], argTypes := #[24, 24] })
    (hbuf : IBuf base w a n cap zs) (ax : Option Addr) (cx : Nat) (xs : List Int) (hs : A.eval sl = .slice a n cap) (hx : A.eval x = .slice ax xs.length cx) (hR : P0.Row w ax xs) (hlen : n + xs.length ≤ 4194304) (hb : base ≤ w.heap.size)
    (h : ∀ a' cap' w', IBuf base w' a' (n + xs.length) cap' (zs ++ xs) → w.grownBy w' (Value.slice a n cap).ownBlock → (∀ g, (Value.slice a' (n + xs.length) cap').ownBlock = some g → (Value.slice a n cap).ownBlock = some g ∨ g = w.heap.size) → wpList Tryz.prog ops Q rest (A.put o.dst (.slice a' (n + xs.length) cap')) w') : wpList Tryz.prog ops Q (o :: rest) A w := by
  obtain ⟨a', cap', w', hrun, r1, r2, r3⟩ := run_rows o.type hbuf ax cx xs hR hlen hb
  exact Lib.wpList_append_run _ hgd sl x 24 24 ho _ _ hs hx _ _ hrun (h a' cap' w' r1 r2 r3)

/-- .. in a region that draws its order, where it alone may come up. -/
theorem one_rows {ops : Array Oper} {Q : Exit → Act → World → Prop} {S : World → Prop} {A : Act} {i : Nat} {o : Oper} {listed : Array Bool} {fuel : Nat} {md : Region.Mode} (hr : Region.ready md ops listed = [i]) (hoi : ops[i]? = some o) (hw : Region.wanted o (yielded ops A.tmps) = true) (sl x : Operand)
    (ho : o.op = .call { callee := .builtin .append, args := #[sl, x], argTypes := #[24, 24] })
    (hbuf : IBuf base w a n cap zs) (ax : Option Addr) (cx : Nat) (xs : List Int) (hs : A.eval sl = .slice a n cap) (hx : A.eval x = .slice ax xs.length cx) (hR : P0.Row w ax xs) (hlen : n + xs.length ≤ 4194304) (hb : base ≤ w.heap.size)
    (h : ∀ a' cap' w', IBuf base w' a' (n + xs.length) cap' (zs ++ xs) → Below base w w' → S w' ∧ wpAnyH Tryz.prog md ops Q S fuel (listed.setIfInBounds i true) (A.put o.dst (.slice a' (n + xs.length) cap')) w') : wpAnyH Tryz.prog md ops Q S (fuel + 1) listed A w := by
  obtain ⟨a', cap', w', hrun, r1, r2, r3⟩ := run_rows o.type hbuf ax cx xs hR hlen hb
  obtain ⟨h1, h2⟩ := h a' cap' w' r1 (run_below hbuf hb r2)
  exact Y0.one_plain hr hoi hw (by simp [execOp, ho, resolve, invoke, builtin, hs, hx, hrun, Result.andThen]) h1 h2
end
end Go.Proofs.YtddlpejklpljoaaGreat.D7

/- The contract of impl.Come, as the given laws call it. -/
namespace Go.Proofs.YtddlpejklpljoaaGreat.Y1
open Go.ChangeShapes Go.WideShapes Go.ChangeAt Go.RowKit
set_option linter.unusedVariables false
set_option linter.unusedSimpArgs false
set_option maxRecDepth 10000

open N0 (Ln)
open N1 (Sl Lists Fit)
open N7 (tv tvs tObj)
open D1 (nodeE)
open J0 (IBuf Own)
open I2 (ints)

/-- Those of a row that are among others. -/
def only (zs al : List Int) : List Int := zs.filter (P0.has al)
/-- What Come answers. -/
def come (mem : ByteArray) (d : Ln) : List Int := if D6.verdict mem d = true then only d.fr (D0.inos (nodeE mem d.ino)) else []

theorem only_yes {zs al : List Int} {k : Nat} (hk : k < zs.length) (h : P0.has al (zs.getD k 0) = true) : only (zs.take (k + 1)) al = only (zs.take k) al ++ [zs.getD k 0] := by
  unfold only
  rw [List.take_succ_eq_append_getElem hk, List.filter_append, P0.getD_get _ _ hk]
  rw [P0.getD_get _ _ hk] at h
  simp [h]
theorem only_no {zs al : List Int} {k : Nat} (hk : k < zs.length) (h : P0.has al (zs.getD k 0) = false) : only (zs.take (k + 1)) al = only (zs.take k) al := by
  unfold only
  rw [List.take_succ_eq_append_getElem hk, List.filter_append]
  rw [P0.getD_get _ _ hk] at h
  simp [h]
theorem only_len (zs al : List Int) (k : Nat) : (only (zs.take k) al).length ≤ zs.length := Nat.le_trans (List.length_filter_le _ _) (by rw [List.length_take]; omega)

/-- A row of entries that lies apart from a row that grows. -/
def Apart (W : World) (be : Option Addr) (es : List T0.Ent) (a : Option Addr) : Prop := T0.Row W be es ∧ (es = [] ∨ ∀ p q, a = some p → be = some q → p.block ≠ q.block)

variable {w W W' : World} {a a' be : Option Addr} {es : List T0.Ent}
theorem Apart.below (h : Apart W be es a) (hb : Below W.heap.size W W') : Apart W' be es a := ⟨h.1.below hb, h.2⟩
theorem Apart.grown {n c n' c' : Nat} (h : Apart W be es a) (hg : W.grownBy W' (Value.slice a n c).ownBlock) (hn : ∀ g, (Value.slice a' n' c').ownBlock = some g → (Value.slice a n c).ownBlock = some g ∨ g = W.heap.size) : Apart W' be es a' := by
  rcases h.1 with h0 | ⟨b, off, rfl, hlt, hc⟩
  · exact ⟨Or.inl h0, Or.inl h0⟩
  · rcases h.2 with h0 | hne
    · exact ⟨Or.inl h0, Or.inl h0⟩
    · have hb : W'.heap[b]? = W.heap[b]? := hg.block b hlt (fun q => by
        cases a with
        | none => cases q
        | some p => exact hne p _ rfl rfl (by simpa [Value.ownBlock] using q.symm))
      refine ⟨Or.inr ⟨b, off, rfl, Nat.lt_of_lt_of_le hlt hg.size, fun j hj => ⟨(World.cell?_of_block (a := ⟨b, off + j * 2, none⟩) hb).trans (hc j hj).1, (World.cell?_of_block (a := ⟨b, off + j * 2 + 1, none⟩) hb).trans (hc j hj).2⟩⟩, Or.inr fun p q hp hq => ?_⟩
      cases hq
      subst hp
      rcases hn p.block rfl with h1 | h1
      · cases a with
        | none => cases h1
        | some p0 =>
          have : p0.block = p.block := by simpa [Value.ownBlock] using h1
          rw [← this]
          exact hne p0 _ rfl rfl
      · show p.block ≠ b
        omega

/-- A block without cells is none of a row's. -/
theorem apart_new {B : Nat} (hR : T0.Row W be es) (hB : W.heap[B]? = some (.cells #[] 3)) : Apart W be es (some ⟨B, 0, none⟩) := by
  rcases hR with h0 | ⟨b, off, rfl, hlt, hc⟩
  · exact ⟨Or.inl h0, Or.inl h0⟩
  · by_cases h0 : es = []
    · exact ⟨Or.inl h0, Or.inl h0⟩
    · refine ⟨Or.inr ⟨b, off, rfl, hlt, hc⟩, Or.inr fun p q hp hq => ?_⟩
      cases hp
      cases hq
      show B ≠ b
      rintro rfl
      have := (hc 0 (List.length_pos_iff.2 h0)).1
      simp [World.cell?, hB] at this

theorem row_one (w : World) (z : Int) : P0.Row (w.alloc (.cells #[.int .i64 z] 3)) (some ⟨w.heap.size, 0, none⟩) [z] := I2.row_of_blk (K0.blk_new (ints [z]) w 3)

set_option maxHeartbeats 1000000 in
theorem impl_Come (mem : ByteArray) (d : Ln) (s : Sl) (w : World) (hms : mem.size ≤ 281474976710656) (hF : Fit d s) (hpo : d.po.length ≤ 1048576) (hfr : d.fr.length ≤ 1048576) (hR : Lists w d s) :
    Calls Tryz.prog 23 #[.string mem, N1.val d s] w fun e w' => ∃ a c, e = .returned (.slice a (come mem d).length c) ∧ (come mem d).length ≤ c ∧ Own w.heap.size w' a (come mem d) ∧ Below w.heap.size w w' := by
  have l0 := K0.below_new w (.cells #[.int .i64 d.ino, .int .i64 d.cl, .int .i64 d.un, .string d.rc, .slice s.a1 d.pg.length s.c1, .string d.sav, .slice s.a2 d.po.length s.c2, .slice s.a3 d.fr.length s.c3] 26)
  have l1 := l0.alloc l0.size (.cells #[] 3)
  have b0 := J0.ibuf_made (base := w.heap.size) (w.alloc (.cells #[.int .i64 d.ino, .int .i64 d.cl, .int .i64 d.un, .string d.rc, .slice s.a1 d.pg.length s.c1, .string d.sav, .slice s.a2 d.po.length s.c2, .slice s.a3 d.fr.length s.c3] 26)) l0.size
  have k0 := heap_alloc_new (w.alloc (.cells #[.int .i64 d.ino, .int .i64 d.cl, .int .i64 d.un, .string d.rc, .slice s.a1 d.pg.length s.c1, .string d.sav, .slice s.a2 d.po.length s.c2, .slice s.a3 d.fr.length s.c3] 26)) (.cells #[] 3)
  have HK : Hid (∀ W, Below w.heap.size w W → Calls Tryz.prog 60 #[.string mem, N1.val d s] W fun e w' => ∃ (k o t : Int) (a : Option Addr) (n c : Nat) (ae : Option Addr) (ne ce : Nat) (d' : Ln) (s' : Sl) (be : Option Addr) (n2 c2 : Nat), e = .returned (.tuple #[tv k o t a n c ae ne ce d' s', .slice be n2 c2, .bool (D6.verdict mem d)]) ∧ Below W.heap.size W w' ∧ (D6.verdict mem d = true → d' = d ∧ s' = s ∧ n2 = (nodeE mem d.ino).length ∧ T0.Row w' be (nodeE mem d.ino))) := fun W hb => (D6.lookBack mem d s W hms hF hpo hfr (hR.below hb)).mono fun e w' ⟨k, o, t, a, n, c, ae, ne, ce, d', s', be, n2, c2, he, hb, hy⟩ => ⟨k, o, t, a, n, c, ae, ne, ce, d', s', be, n2, c2, he, hb, fun h => ⟨(hy h).1, (hy h).2.1, (hy h).2.2.2.2.1, (hy h).2.2.2.2.2⟩⟩
  have hr3 : Hid (∀ W, Below w.heap.size w W → P0.Row W s.a3 d.fr) := fun W hb => (hR.below hb).r3
  clear hF
  have hel := D6.nodeE_len mem d.ino
  cases hv : D6.verdict mem d with
  | false =>
    have hco : come mem d = [] := by rw [come, hv]; rfl
    rw [hco]
    rw [hv] at HK
    clear hv hco hel hR
    go_enter Tryz.func23, Tryz.ntmps23
    go_wp2_with (go_at_call 60; refine (HK.out _ l1).mono ?_; rintro e w1 ⟨k, o, t, a, n, c, ae, ne, ce, d', s', be, n2, c2, rfl, b1, -⟩)
    go_ret
    exact ⟨_, _, rfl, Nat.le_refl _, Or.inl rfl, (l1.trans (b1.mono l1.size)).alloc (Nat.le_trans l1.size b1.size) _⟩
  | true =>
    have hco : come mem d = only d.fr (D0.inos (nodeE mem d.ino)) := by rw [come, if_pos hv]
    rw [hco]
    rw [hv] at HK
    obtain ⟨es, hes⟩ : ∃ es, nodeE mem d.ino = es := ⟨_, rfl⟩
    rw [hes] at HK hel ⊢
    clear hv hco hR hes
    go_enter Tryz.func23, Tryz.ntmps23
    go_wp2_with (go_at_call 60; refine (HK.out _ l1).mono ?_; rintro e w1 ⟨k, o, t, a, n, c, ae, ne, ce, d', s', be, n2, c2, rfl, b1, hy⟩; obtain ⟨ed, es', rfl, rE⟩ := hy rfl; subst d'; subst s'; clear hy; have n2' := K0.below_new w1 (tObj k o t a n c ae ne ce d s))
    have ap : Apart (w1.alloc (tObj k o t a n c ae ne ce d s)) be es (some ⟨w.heap.size + 1, 0, none⟩) := Apart.below (apart_new (B := w.heap.size + 1) rE ((b1.block _ (by simp)).trans (by simpa using k0))) n2'
    have bf : IBuf w.heap.size (w1.alloc (tObj k o t a n c ae ne ce d s)) (some ⟨w.heap.size + 1, 0, none⟩) 0 0 [] := by
      have := (b0.below b1).below n2'
      simpa using this
    have l2 := (l1.trans (b1.mono l1.size)).alloc (Nat.le_trans l1.size b1.size) (tObj k o t a n c ae ne ce d s)
    clear b0 k0 l0 l1 HK
    go_loopw [5, 26] (fun v i w' => ∃ (k n c : Nat) (a : Option Addr), k ≤ d.fr.length ∧ i = .int .i64 k ∧ v = .slice a n c ∧ IBuf w.heap.size w' a n c (only (d.fr.take k) (D0.inos es)) ∧ Apart w' be es a ∧ Below w.heap.size w w') (fun _ i _ => d.fr.length - (intOf i).toNat)
    case atStart => exact ⟨0, 0, 0, _, Nat.zero_le _, rfl, rfl, bf, ap, l2⟩
    case round =>
      obtain ⟨k5, n5, c5, a5, hk, rfl, rfl, hbuf, hap, hbel⟩ := hrel
      clear bf ap l2 rE
      by_cases hlt : k5 < d.fr.length
      · obtain ⟨b, off, hab, _, hc⟩ := (hr3.out _ hbel).get hlt
        have x1 := hc k5 hlt
        have hyes := fun h => only_yes (zs := d.fr) (al := D0.inos es) hlt h
        have hno := fun h => only_no (zs := d.fr) (al := D0.inos es) hlt h
        have hnl : n5 ≤ d.fr.length := by rw [hbuf.1]; exact only_len _ _ _
        obtain ⟨z, ez⟩ : ∃ z, d.fr.getD k5 0 = z := ⟨_, rfl⟩
        rw [ez] at x1 hyes hno
        rw [hab]
        have e1 : (0 : Int) ≤ (k5 : Int) := by omega
        have e2 : (k5 : Int) < (d.fr.length : Int) := by omega
        have hI : Hid (∀ W, T0.Row W be es → Calls Tryz.prog 61 #[.slice be es.length c2, .int .i64 z] W fun e w' => e = .returned (.bool (P0.has (D0.inos es) z)) ∧ Below W.heap.size W w') := fun W h => D0.hasIno be c2 es z W (by omega) h
        cases h : P0.has (D0.inos es) z with
        | true =>
          have HS : Hid (only (d.fr.take k5) (D0.inos es) ++ [z] = only (d.fr.take (k5 + 1)) (D0.inos es)) := (hyes h).symm
          rw [h] at hI
          clear ez hc hyes hno h
          go_wp2_with (first
            | (go_at_call 61; refine (hI.out _ hap.1).mono ?_; rintro e w6 ⟨rfl, b6⟩; have p6 := (hap.below b6).below (K0.below_new w6 (.cells #[.int .i64 z] 3)); have f6 := (hbuf.below b6).alloc (.cells #[.int .i64 z] 3); have l6 := (hbel.trans (b6.mono hbel.size)).alloc (Nat.le_trans hbel.size b6.size) (.cells #[.int .i64 z] 3))
            | (at_builtin; refine D7.append_rows2 rfl (.tmp 33) (.tmp 35) rfl f6 _ _ [z] (by rfl) (by rfl) (row_one w6 z) (by simp only [List.length_cons, List.length_nil]; omega) l6.size ?_; intro a7 c7 w7 f7 g7 o7))
          have p7 := p6.grown g7 o7
          have l7 := l6.trans (D7.run_below f6 l6.size g7)
          go_roundw
          case rel => exact ⟨k5 + 1, n5 + 1, c7, a7, by omega, by go_num, rfl, by rw [← HS.out]; exact f7, p7, l7⟩
          case measure => simp [intOf]; omega
        | false =>
          have HS : Hid (only (d.fr.take (k5 + 1)) (D0.inos es) = only (d.fr.take k5) (D0.inos es)) := hno h
          rw [h] at hI
          clear ez hc hyes hno h
          go_wp2_with (go_at_call 61; refine (hI.out _ hap.1).mono ?_; rintro e w6 ⟨rfl, b6⟩)
          go_roundw
          case rel => exact ⟨k5 + 1, n5, c5, a5, by omega, by go_num, rfl, by rw [HS.out]; exact hbuf.below b6, hap.below b6, hbel.trans (b6.mono hbel.size)⟩
          case measure => simp [intOf]; omega
      · obtain rfl : k5 = d.fr.length := by omega
        have HF : Hid (IBuf w.heap.size wr a5 n5 c5 (only d.fr (D0.inos es))) := by
          show IBuf _ _ _ _ _ _
          rw [List.take_length] at hbuf
          exact hbuf
        have e9 : decide ((d.fr.length : Int) < (d.fr.length : Int)) = false := by simp
        clear hbuf hap
        go_wp2
        go_ret
        exact ⟨a5, c5, by rw [← HF.out.1]; rfl, by rw [← HF.out.1]; exact HF.out.fits, HF.out.own, hbel⟩
end Go.Proofs.YtddlpejklpljoaaGreat.Y1
