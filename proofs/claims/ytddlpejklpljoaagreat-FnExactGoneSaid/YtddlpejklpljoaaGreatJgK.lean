/- Joined texts: plain facts and contracts, as each part says. -/
import Derived.Test.YtddlpejklpljoaaGreatJgJ
import Derived.Test.YtddlpejklpljoaaGreatJgF
import Derived.Deep.RegionHeld3

/- The contract of impl.tenure's newInode, as the given laws call it. -/
namespace Go.Proofs.YtddlpejklpljoaaGreat.D2
open Go.ChangeShapes Go.WideShapes Go.ChangeAt Go.RowKit
set_option linter.unusedVariables false
set_option linter.unusedSimpArgs false
set_option maxRecDepth 10000

open N0 (Ln)
open N1 (Sl)

/-- What an inode that is new in a directory must be. -/
def newOk (mem : ByteArray) (d : Ln) (x : Int) : Bool := P0.has d.fr x && (G0.isI (O0.recd mem x) && (!decide (G0.gK (O0.recd mem x) = 0) && (!(decide (G0.gK (O0.recd mem x) = 2) && !decide (G0.gS (O0.recd mem x) = 0)) && (decide (G0.gO (O0.recd mem x) = d.cl) && N0.among (G0.gZ (O0.recd mem x)) d.po))))

/-- What newInode answers. -/
def Ans (mem : ByteArray) (d : Ln) (x : Int) (w : World) (e : Ending) (w' : World) : Prop :=
  ∃ (k o t : Int) (a : Option Addr) (n c : Nat), e = .returned (.tuple #[I0.val k o t a n c, .bool (newOk mem d x)]) ∧ Below w.heap.size w w' ∧ (newOk mem d x = true → n = (G0.gZ (O0.recd mem x)).length ∧ n ≤ c ∧ J0.Own w.heap.size w' a (G0.gZ (O0.recd mem x)))

theorem ans_no {mem : ByteArray} {d : Ln} {x : Int} {w w' : World} {k o t : Int} {a : Option Addr} {n c : Nat} (h : newOk mem d x = false) (hb : Below w.heap.size w w') : Ans mem d x w (.returned (.tuple #[I0.val k o t a n c, .bool false])) w' :=
  ⟨k, o, t, a, n, c, by rw [h], hb, fun h' => by rw [h] at h'; cases h'⟩
theorem ans_yes {mem : ByteArray} {d : Ln} {x : Int} {w w' : World} {k o t : Int} {a : Option Addr} {c : Nat} (h : newOk mem d x = true) (hb : Below w.heap.size w w') (hc : (G0.gZ (O0.recd mem x)).length ≤ c) (ho : J0.Own w.heap.size w' a (G0.gZ (O0.recd mem x))) : Ans mem d x w (.returned (.tuple #[I0.val k o t a (G0.gZ (O0.recd mem x)).length c, .bool true])) w' :=
  ⟨k, o, t, a, _, c, by rw [h], hb, fun _ => ⟨rfl, hc, ho⟩⟩

theorem new_cases (mem : ByteArray) (d : Ln) (x : Int) :
    (P0.has d.fr x = false ∧ newOk mem d x = false) ∨ (P0.has d.fr x = true ∧ G0.isI (O0.recd mem x) = false ∧ newOk mem d x = false) ∨
    (P0.has d.fr x = true ∧ G0.isI (O0.recd mem x) = true ∧ (G0.gK (O0.recd mem x) == 0) = true ∧ newOk mem d x = false) ∨
    (P0.has d.fr x = true ∧ G0.isI (O0.recd mem x) = true ∧ (G0.gK (O0.recd mem x) == 0) = false ∧ (G0.gK (O0.recd mem x) == 2) = true ∧ (G0.gS (O0.recd mem x) != 0) = true ∧ newOk mem d x = false) ∨
    (P0.has d.fr x = true ∧ G0.isI (O0.recd mem x) = true ∧ (G0.gK (O0.recd mem x) == 0) = false ∧ ((G0.gK (O0.recd mem x) == 2) = true ∧ (G0.gS (O0.recd mem x) != 0) = false ∨ (G0.gK (O0.recd mem x) == 2) = false) ∧ newOk mem d x = ((G0.gO (O0.recd mem x) == d.cl) && N0.among (G0.gZ (O0.recd mem x)) d.po)) := by
  unfold newOk
  cases h1 : P0.has d.fr x with
  | false => exact Or.inl ⟨rfl, Bool.false_and _⟩
  | true =>
    right
    rw [Bool.true_and]
    cases h2 : G0.isI (O0.recd mem x) with
    | false => exact Or.inl ⟨rfl, rfl, Bool.false_and _⟩
    | true =>
      right
      rw [Bool.true_and]
      by_cases h3 : G0.gK (O0.recd mem x) = 0
      · exact Or.inl ⟨rfl, rfl, by simpa using h3, by rw [decide_eq_true h3, Bool.not_true, Bool.false_and]⟩
      · right
        have h3' : (G0.gK (O0.recd mem x) == 0) = false := by simpa using h3
        have hcl : decide (G0.gO (O0.recd mem x) = d.cl) = (G0.gO (O0.recd mem x) == d.cl) := by
          by_cases h : G0.gO (O0.recd mem x) = d.cl
          · rw [decide_eq_true h]; simp [h]
          · rw [decide_eq_false h]; symm; simpa using h
        rw [decide_eq_false h3, Bool.not_false, Bool.true_and, hcl]
        by_cases h4 : G0.gK (O0.recd mem x) = 2
        · have h4' : (G0.gK (O0.recd mem x) == 2) = true := by simpa using h4
          rw [decide_eq_true h4, Bool.true_and, Bool.not_not]
          by_cases h5 : G0.gS (O0.recd mem x) = 0
          · right
            exact ⟨rfl, rfl, h3', Or.inl ⟨h4', by simpa using h5⟩, by rw [decide_eq_true h5, Bool.true_and]⟩
          · left
            exact ⟨rfl, rfl, h3', h4', by simpa using h5, by rw [decide_eq_false h5, Bool.false_and]⟩
        · right
          exact ⟨rfl, rfl, h3', Or.inr (by simpa using h4), by rw [decide_eq_false h4, Bool.false_and, Bool.not_false, Bool.true_and]⟩

/-- The blocks of newInode. -/
structure NW (w : World) (ts : List Value) (k o t : Int) (a : Option Addr) (n c B : Nat) (W : World) : Prop where
  box : K0.Blk w.heap.size ts W
  res : K0.Blk (w.heap.size + 1) (I0.vals 0 0 0 none 0 0) W
  nb : K0.Blk B (I0.vals k o t a n c) W
  bel : Below w.heap.size w W
variable {w W W' : World}
theorem NW.below {ts : List Value} {k o t : Int} {a : Option Addr} {n c B : Nat} (h : NW w ts k o t a n c B W) (hb : Below W.heap.size W W') : NW w ts k o t a n c B W' := ⟨h.box.below hb, h.res.below hb, h.nb.below hb, h.bel.trans (hb.mono h.bel.size)⟩

abbrev w00 (w : World) (o : Obj) : World := (w.alloc o).alloc (.cells #[.int .i64 0, .int .i64 0, .int .i64 0, .slice none 0 0] 45)
theorem bel00 (w : World) (o : Obj) : Below w.heap.size w (w00 w o) := ((Below.refl _ _).alloc (Nat.le_refl _) _).alloc (by simp) _
theorem nw_new {ts : List Value} {T : TypeId} {k o t : Int} {a : Option Addr} {n c : Nat} (hb : Below (w00 w (.cells ts.toArray T)).heap.size (w00 w (.cells ts.toArray T)) W) : NW w ts k o t a n c W.heap.size (W.alloc (.cells #[.int .i64 k, .int .i64 o, .int .i64 t, .slice a n c] 45)) :=
  ⟨(((K0.blk_new ts w T).alloc _).below hb).alloc _, ((K0.blk_at (I0.vals 0 0 0 none 0 0) _ 45 (by simp)).below hb).alloc _, K0.blk_new (I0.vals k o t a n c) W 45,
   ((bel00 w _).trans (hb.mono (bel00 w _).size)).alloc (Nat.le_trans (bel00 w _).size hb.size) _⟩

set_option maxHeartbeats 4000000 in
theorem newInode (k o t : Int) (a : Option Addr) (n c : Nat) (ae : Option Addr) (ne ce : Nat) (d : Ln) (s : Sl) (mem : ByteArray) (x : Int) (w : World) (hms : mem.size ≤ 281474976710656) (hpo : d.po.length ≤ 1048576) (hfr : d.fr.length ≤ 1048576) (R2 : P0.Row w s.a2 d.po) (R3 : P0.Row w s.a3 d.fr) :
    Calls Tryz.prog 128 #[N7.tv k o t a n c ae ne ce d s, .string mem, .int .i64 x] w (Ans mem d x w) := by
  have hrs := O0.recd_size mem x hms
  have hb00 := bel00 w (N7.tObj k o t a n c ae ne ce d s)
  have HR2 : Hid (∀ W, Below w.heap.size w W → P0.Row W s.a2 d.po) := fun W hb => R2.below hb
  have hct : Calls Tryz.prog 124 #[.slice s.a3 d.fr.length s.c3, .int .i64 x] (w00 w (N7.tObj k o t a n c ae ne ce d s)) fun e w' => e = .returned (.bool (P0.has d.fr x)) ∧ w' = w00 w (N7.tObj k o t a n c ae ne ce d s) := N2.containsRow _ _ _ _ _ (by omega) (R3.below hb00)
  have hpt : Hid (∀ W, Calls Tryz.prog 18 #[.string mem, .int .i64 (L1.recAt x), .int .i64 16] W fun e w' => e = .returned (.string (O0.recd mem x)) ∧ Below W.heap.size W w') := fun W => B2.impl_Part _ _ _ _ hms
  have hG : Hid (∀ W, Calls Tryz.prog 28 #[.string (O0.recd mem x)] W (G3.Ans (O0.recd mem x) W)) := fun W => G3.impl_GetInode _ W hrs
  have hA : Hid (∀ W e w', G3.Ans (O0.recd mem x) W e w' → ∃ a c, e = .returned (.tuple #[I0.val (G0.gK (O0.recd mem x)) (G0.gO (O0.recd mem x)) (G0.gS (O0.recd mem x)) a (G0.gZ (O0.recd mem x)).length c, .bool (G0.isI (O0.recd mem x))]) ∧ J0.Own W.heap.size w' a (G0.gZ (O0.recd mem x)) ∧ (G0.gZ (O0.recd mem x)).length ≤ c ∧ Below W.heap.size W w') := fun W e w' h => h
  have hzl : (G0.gZ (O0.recd mem x)).length ≤ 281474976710656 := by
    unfold G0.gZ
    split
    · rw [G0.pgs_length]; have := G0.cnt_le (O0.recd mem x); omega
    · exact Nat.zero_le _
  have HN : Hid (∀ k o t a n c w', newOk mem d x = false → Below w.heap.size w w' → Ans mem d x w (.returned (.tuple #[I0.val k o t a n c, .bool false])) w') := fun k o t a n c w' h hb => ans_no h hb
  have HY : Hid (∀ k o t a c w', newOk mem d x = true → Below w.heap.size w w' → (G0.gZ (O0.recd mem x)).length ≤ c → J0.Own w.heap.size w' a (G0.gZ (O0.recd mem x)) → Ans mem d x w (.returned (.tuple #[I0.val k o t a (G0.gZ (O0.recd mem x)).length c, .bool true])) w') := fun k o t a c w' h hb hc ho => ans_yes h hb hc ho
  have hcase := new_cases mem d x
  obtain ⟨R, hR⟩ : ∃ R, Ans mem d x w = R := ⟨_, rfl⟩
  rw [hR] at HN HY ⊢
  obtain ⟨Q, hQ⟩ : ∃ Q, O0.recd mem x = Q := ⟨_, rfl⟩
  rw [hQ] at hpt hG hA HY hcase hzl
  obtain ⟨K, hK⟩ : ∃ K, G0.gK Q = K := ⟨_, rfl⟩
  obtain ⟨O, hO⟩ : ∃ O, G0.gO Q = O := ⟨_, rfl⟩
  obtain ⟨S, hS⟩ : ∃ S, G0.gS Q = S := ⟨_, rfl⟩
  obtain ⟨Z, hZ⟩ : ∃ Z, G0.gZ Q = Z := ⟨_, rfl⟩
  rw [hK, hO, hS, hZ] at hA hcase
  rw [hZ] at HY hzl
  clear hR hQ hK hO hS hZ hrs R2 R3
  rcases hcase with ⟨gh, hp⟩ | ⟨gh, gI, hp⟩ | ⟨gh, gI, g0, hp⟩ | ⟨gh, gI, g0, g2, gS, hp⟩ | ⟨gh, gI, g0, g2, hp⟩
  · rw [gh] at hct
    clear gh
    go_enter Tryz.func128, Tryz.ntmps128
    go_wp2_with (go_at_call 124; refine hct.mono ?_; rintro e wc ⟨rfl, rfl⟩)
    refine bodyPost_ret (v := .tuple #[I0.val 0 0 0 none 0 0, .bool false]) (by simp [results, Tryz.results128, go_sem]) rfl (HN.out _ _ _ _ _ _ _ hp ?_)
    go_grown
  · rw [gh] at hct
    rw [gI] at hA
    clear gh gI
    go_enter Tryz.func128, Tryz.ntmps128
    go_wp2_with (first
      | (go_at_call 124; refine hct.mono ?_; rintro e wc ⟨rfl, rfl⟩)
      | (go_at_call 19; refine (L1.impl_RecAt _ _).mono ?_; rintro e wq ⟨rfl, rfl⟩)
      | (go_at_call 18; refine (hpt.out _).mono ?_; rintro e w1 ⟨rfl, b1⟩)
      | (go_at_call 28; refine (hG.out _).mono ?_; intro e w2 hans; obtain ⟨a', c', rfl, ho, hc, b2⟩ := hA.out _ _ _ hans; clear hans; have p2 := nw_new (ts := N7.tvs k o t a n c ae ne ce d s) (T := 75) (k := K) (o := O) (t := S) (a := a') (n := Z.length) (c := c') (b1.trans (b2.mono b1.size)); have y0 := p2.nb.c0; have y1 := p2.nb.c1; have y2 := p2.nb.c2; have y3 := p2.nb.c3; have c0 := p2.res.c0; have c1 := p2.res.c1; have c2 := p2.res.c2; have c3 := p2.res.c3; have f0 := p2.res.f0; have f1 := p2.res.f1; have f2 := p2.res.f2; have f3 := p2.res.f3))
    have q := p2.res.put4 (.int .i64 0) (.int .i64 0) (.int .i64 0) (.slice none 0 0)
    have hbl : Below w.heap.size w _ := ((((p2.bel.setCell (p := ⟨w.heap.size + 1, 0, none⟩) (Nat.le_add_right _ _) (.int .i64 0)).setCell (p := ⟨w.heap.size + 1, 1, none⟩) (Nat.le_add_right _ _) (.int .i64 0)).setCell (p := ⟨w.heap.size + 1, 2, none⟩) (Nat.le_add_right _ _) (.int .i64 0)).setCell (p := ⟨w.heap.size + 1, 3, none⟩) (Nat.le_add_right _ _) (.slice none 0 0))
    exact bodyPost_ret (v := .tuple #[I0.val 0 0 0 none 0 0, .bool false]) (by simp [results, Tryz.results128, go_sem, q.c0, q.c1, q.c2, q.c3]) rfl (HN.out _ _ _ _ _ _ _ hp hbl)
  · rw [gh] at hct
    rw [gI] at hA
    clear gh gI
    go_enter Tryz.func128, Tryz.ntmps128
    go_wp2_with (first
      | (go_at_call 124; refine hct.mono ?_; rintro e wc ⟨rfl, rfl⟩)
      | (go_at_call 19; refine (L1.impl_RecAt _ _).mono ?_; rintro e wq ⟨rfl, rfl⟩)
      | (go_at_call 18; refine (hpt.out _).mono ?_; rintro e w1 ⟨rfl, b1⟩)
      | (go_at_call 28; refine (hG.out _).mono ?_; intro e w2 hans; obtain ⟨a', c', rfl, ho, hc, b2⟩ := hA.out _ _ _ hans; clear hans; have p2 := nw_new (ts := N7.tvs k o t a n c ae ne ce d s) (T := 75) (k := K) (o := O) (t := S) (a := a') (n := Z.length) (c := c') (b1.trans (b2.mono b1.size)); have y0 := p2.nb.c0; have y1 := p2.nb.c1; have y2 := p2.nb.c2; have y3 := p2.nb.c3; have c0 := p2.res.c0; have c1 := p2.res.c1; have c2 := p2.res.c2; have c3 := p2.res.c3; have f0 := p2.res.f0; have f1 := p2.res.f1; have f2 := p2.res.f2; have f3 := p2.res.f3))
    have q := p2.res.put4 (.int .i64 0) (.int .i64 0) (.int .i64 0) (.slice none 0 0)
    have hbl : Below w.heap.size w _ := ((((p2.bel.setCell (p := ⟨w.heap.size + 1, 0, none⟩) (Nat.le_add_right _ _) (.int .i64 0)).setCell (p := ⟨w.heap.size + 1, 1, none⟩) (Nat.le_add_right _ _) (.int .i64 0)).setCell (p := ⟨w.heap.size + 1, 2, none⟩) (Nat.le_add_right _ _) (.int .i64 0)).setCell (p := ⟨w.heap.size + 1, 3, none⟩) (Nat.le_add_right _ _) (.slice none 0 0))
    exact bodyPost_ret (v := .tuple #[I0.val 0 0 0 none 0 0, .bool false]) (by simp [results, Tryz.results128, go_sem, q.c0, q.c1, q.c2, q.c3]) rfl (HN.out _ _ _ _ _ _ _ hp hbl)
  · rw [gh] at hct
    rw [gI] at hA
    clear gh gI
    go_enter Tryz.func128, Tryz.ntmps128
    go_wp2_with (first
      | (go_at_call 124; refine hct.mono ?_; rintro e wc ⟨rfl, rfl⟩)
      | (go_at_call 19; refine (L1.impl_RecAt _ _).mono ?_; rintro e wq ⟨rfl, rfl⟩)
      | (go_at_call 18; refine (hpt.out _).mono ?_; rintro e w1 ⟨rfl, b1⟩)
      | (go_at_call 28; refine (hG.out _).mono ?_; intro e w2 hans; obtain ⟨a', c', rfl, ho, hc, b2⟩ := hA.out _ _ _ hans; clear hans; have p2 := nw_new (ts := N7.tvs k o t a n c ae ne ce d s) (T := 75) (k := K) (o := O) (t := S) (a := a') (n := Z.length) (c := c') (b1.trans (b2.mono b1.size)); have y0 := p2.nb.c0; have y1 := p2.nb.c1; have y2 := p2.nb.c2; have y3 := p2.nb.c3; have c0 := p2.res.c0; have c1 := p2.res.c1; have c2 := p2.res.c2; have c3 := p2.res.c3; have f0 := p2.res.f0; have f1 := p2.res.f1; have f2 := p2.res.f2; have f3 := p2.res.f3))
    have q := p2.res.put4 (.int .i64 0) (.int .i64 0) (.int .i64 0) (.slice none 0 0)
    have hbl : Below w.heap.size w _ := ((((p2.bel.setCell (p := ⟨w.heap.size + 1, 0, none⟩) (Nat.le_add_right _ _) (.int .i64 0)).setCell (p := ⟨w.heap.size + 1, 1, none⟩) (Nat.le_add_right _ _) (.int .i64 0)).setCell (p := ⟨w.heap.size + 1, 2, none⟩) (Nat.le_add_right _ _) (.int .i64 0)).setCell (p := ⟨w.heap.size + 1, 3, none⟩) (Nat.le_add_right _ _) (.slice none 0 0))
    exact bodyPost_ret (v := .tuple #[I0.val 0 0 0 none 0 0, .bool false]) (by simp [results, Tryz.results128, go_sem, q.c0, q.c1, q.c2, q.c3]) rfl (HN.out _ _ _ _ _ _ _ hp hbl)
  · rw [gh] at hct
    rw [gI] at hA
    have HP : Hid (newOk mem d x = ((O == d.cl) && N0.among Z d.po)) := hp
    clear gh gI hp
    have hgo : Calls Tryz.prog 128 #[N7.tv k o t a n c ae ne ce d s, .string mem, .int .i64 x] w R := by
      rcases g2 with ⟨g2, gS⟩ | g2
      all_goals
        go_enter Tryz.func128, Tryz.ntmps128
        go_wp2_with (first
      | (go_at_call 124; refine hct.mono ?_; rintro e wc ⟨rfl, rfl⟩)
      | (go_at_call 19; refine (L1.impl_RecAt _ _).mono ?_; rintro e wq ⟨rfl, rfl⟩)
      | (go_at_call 18; refine (hpt.out _).mono ?_; rintro e w1 ⟨rfl, b1⟩)
      | (go_at_call 28; refine (hG.out _).mono ?_; intro e w2 hans; obtain ⟨a', c', rfl, ho, hc, b2⟩ := hA.out _ _ _ hans; clear hans; have p2 := nw_new (ts := N7.tvs k o t a n c ae ne ce d s) (T := 75) (k := K) (o := O) (t := S) (a := a') (n := Z.length) (c := c') (b1.trans (b2.mono b1.size)); have y0 := p2.nb.c0; have y1 := p2.nb.c1; have y2 := p2.nb.c2; have y3 := p2.nb.c3))
        have bd : Below (w2.alloc (.cells #[.int .i64 K, .int .i64 O, .int .i64 S, .slice a' Z.length c'] 45)).heap.size (w2.alloc (.cells #[.int .i64 K, .int .i64 O, .int .i64 S, .slice a' Z.length c'] 45)) (w2.alloc (.cells #[.int .i64 K, .int .i64 O, .int .i64 S, .slice a' Z.length c'] 45)).drew := (Below.refl _ _).drew
        have p3 := p2.below bd
        have o3 := (ho.alloc (.cells #[.int .i64 K, .int .i64 O, .int .i64 S, .slice a' Z.length c'] 45)).below bd
        have hbz := b1.size
        have hb2z := b2.size
        simp at hbz
        have hBn : w.heap.size + 2 ≤ w2.heap.size := by omega
        replace o3 := o3.mono (base' := w.heap.size + 2) (by omega)
        obtain ⟨V, hV⟩ : ∃ V, w2.alloc (.cells #[.int .i64 K, .int .i64 O, .int .i64 S, .slice a' Z.length c'] 45) = V := ⟨_, rfl⟩
        obtain ⟨Bn, hBn'⟩ : ∃ Bn, w2.heap.size = Bn := ⟨_, rfl⟩
        rw [hV] at p3 o3
        rw [hBn'] at p3 hBn
        simp only [hBn']
        rw [hV]
        have qr := p3.res.put4 (.int .i64 K) (.int .i64 O) (.int .i64 S) (.slice a' Z.length c')
        have qb := (((p3.box.setOther (B' := w.heap.size + 1) (by omega) 0 (.int .i64 K)).setOther (B' := w.heap.size + 1) (by omega) 1 (.int .i64 O)).setOther (B' := w.heap.size + 1) (by omega) 2 (.int .i64 S)).setOther (B' := w.heap.size + 1) (by omega) 3 (.slice a' Z.length c')
        have qn := (((p3.nb.setOther (B' := w.heap.size + 1) (by omega) 0 (.int .i64 K)).setOther (B' := w.heap.size + 1) (by omega) 1 (.int .i64 O)).setOther (B' := w.heap.size + 1) (by omega) 2 (.int .i64 S)).setOther (B' := w.heap.size + 1) (by omega) 3 (.slice a' Z.length c')
        have hbl := ((((p3.bel.setCell (p := ⟨w.heap.size + 1, 0, none⟩) (Nat.le_add_right _ _) (.int .i64 K)).setCell (p := ⟨w.heap.size + 1, 1, none⟩) (Nat.le_add_right _ _) (.int .i64 O)).setCell (p := ⟨w.heap.size + 1, 2, none⟩) (Nat.le_add_right _ _) (.int .i64 S)).setCell (p := ⟨w.heap.size + 1, 3, none⟩) (Nat.le_add_right _ _) (.slice a' Z.length c'))
        have oq := (((o3.set (B := w.heap.size + 1) (by omega) 0 (.int .i64 K)).set (B := w.heap.size + 1) (by omega) 1 (.int .i64 O)).set (B := w.heap.size + 1) (by omega) 2 (.int .i64 S)).set (B := w.heap.size + 1) (by omega) 3 (.slice a' Z.length c')
        have hal := D0.allAmong a' s.a2 c' s.c2 Z d.po V.drew hzl (by omega) o3.row (HR2.out _ p3.bel)
        have sx : V.drew.cell? ⟨Bn, 0, none⟩ = some (.int .i64 K) ∧ V.drew.cell? ⟨Bn, 1, none⟩ = some (.int .i64 O) ∧ V.drew.cell? ⟨Bn, 2, none⟩ = some (.int .i64 S) ∧ V.drew.cell? ⟨Bn, 3, none⟩ = some (.slice a' Z.length c') ∧ V.drew.cell? ⟨w.heap.size, 6, none⟩ = some (.int .i64 d.cl) ∧ V.drew.cell? ⟨w.heap.size, 11, none⟩ = some (.slice s.a2 d.po.length s.c2) := ⟨p3.nb.c0, p3.nb.c1, p3.nb.c2, p3.nb.c3, p3.box.cell 6 (by simp), p3.box.cell 11 (by simp)⟩
        have c0 := p3.res.c0
        have c1 := p3.res.c1
        have c2 := p3.res.c2
        have c3 := p3.res.c3
        have f0 := p3.res.f0
        have f1 := p3.res.f1
        have f2 := p3.res.f2
        have f3 := p3.res.f3
        have v0 := qr.c0
        have v1 := qr.c1
        have v2 := qr.c2
        have v3 := qr.c3
        obtain ⟨am, ham⟩ : ∃ am, N0.among Z d.po = am := ⟨_, rfl⟩
        rw [ham] at hal HP
        obtain ⟨ow, how⟩ : ∃ ow, (O == d.cl) = ow := ⟨_, rfl⟩
        rw [how] at HP
        clear hV hBn' ham y0 y1 y2 y3 p2 ho bd hct
        cases ow with
        | false =>
          refine wp_region_held_drew (S := fun W => W.cell? ⟨Bn, 0, none⟩ = some (.int .i64 K) ∧ W.cell? ⟨Bn, 1, none⟩ = some (.int .i64 O) ∧ W.cell? ⟨Bn, 2, none⟩ = some (.int .i64 S) ∧ W.cell? ⟨Bn, 3, none⟩ = some (.slice a' Z.length c') ∧ W.cell? ⟨w.heap.size, 6, none⟩ = some (.int .i64 d.cl) ∧ W.cell? ⟨w.heap.size, 11, none⟩ = some (.slice s.a2 d.po.length s.c2)) (by kernel_rfl) sx ?_
          intro _
          generalize V.drew = Vd at *
          refine wpAnyH_take (i := 0) (v := I0.val K O S a' Z.length c') rfl (by kernel_rfl) (by kernel_rfl) (by kernel_rfl) (fun _ _ _ h => h) (Or.inl ⟨by rfl, fun w' hS' => ?_⟩) sx ?_
          · obtain ⟨q0, q1, q2, q3, q6, q11⟩ := hS'
            go_simp
          simp only [List.getElem_toArray, List.getElem_cons_succ, List.getElem_cons_zero, Act.put, List.setIfInBounds_toArray, List.set_cons_succ, List.set_cons_zero, Nat.reduceAdd]
          refine wpAnyH_take (i := 1) (v := .pointer (some ⟨Bn, 1, none⟩)) rfl (by kernel_rfl) (by kernel_rfl) (by kernel_rfl) (fun _ _ _ h => h) (Or.inl ⟨by rfl, fun w' hS' => ?_⟩) sx ?_
          · obtain ⟨q0, q1, q2, q3, q6, q11⟩ := hS'
            go_simp
          simp only [List.getElem_toArray, List.getElem_cons_succ, List.getElem_cons_zero, Act.put, List.setIfInBounds_toArray, List.set_cons_succ, List.set_cons_zero, Nat.reduceAdd]
          refine wpAnyH_take (i := 2) (v := .int .i64 O) rfl (by kernel_rfl) (by kernel_rfl) (by kernel_rfl) (fun _ _ _ h => h) (Or.inl ⟨by rfl, fun w' hS' => ?_⟩) sx ?_
          · obtain ⟨q0, q1, q2, q3, q6, q11⟩ := hS'
            go_simp
          simp only [List.getElem_toArray, List.getElem_cons_succ, List.getElem_cons_zero, Act.put, List.setIfInBounds_toArray, List.set_cons_succ, List.set_cons_zero, Nat.reduceAdd]
          refine wpAnyH_take (i := 3) (v := .pointer (some ⟨w.heap.size, 5, none⟩)) rfl (by kernel_rfl) (by kernel_rfl) (by kernel_rfl) (fun _ _ _ h => h) (Or.inl ⟨by rfl, fun w' hS' => ?_⟩) sx ?_
          · obtain ⟨q0, q1, q2, q3, q6, q11⟩ := hS'
            go_simp
          simp only [List.getElem_toArray, List.getElem_cons_succ, List.getElem_cons_zero, Act.put, List.setIfInBounds_toArray, List.set_cons_succ, List.set_cons_zero, Nat.reduceAdd]
          refine wpAnyH_take (i := 4) (v := .pointer (some ⟨w.heap.size, 6, none⟩)) rfl (by kernel_rfl) (by kernel_rfl) (by kernel_rfl) (fun _ _ _ h => h) (Or.inl ⟨by rfl, fun w' hS' => ?_⟩) sx ?_
          · obtain ⟨q0, q1, q2, q3, q6, q11⟩ := hS'
            go_simp
          simp only [List.getElem_toArray, List.getElem_cons_succ, List.getElem_cons_zero, Act.put, List.setIfInBounds_toArray, List.set_cons_succ, List.set_cons_zero, Nat.reduceAdd]
          refine wpAnyH_take (i := 5) (v := .int .i64 d.cl) rfl (by kernel_rfl) (by kernel_rfl) (by kernel_rfl) (fun _ _ _ h => h) (Or.inl ⟨by rfl, fun w' hS' => ?_⟩) sx ?_
          · obtain ⟨q0, q1, q2, q3, q6, q11⟩ := hS'
            go_simp
          simp only [List.getElem_toArray, List.getElem_cons_succ, List.getElem_cons_zero, Act.put, List.setIfInBounds_toArray, List.set_cons_succ, List.set_cons_zero, Nat.reduceAdd]
          refine wpAnyH_take (i := 6) (v := .bool false) rfl (by kernel_rfl) (by kernel_rfl) (by kernel_rfl) (fun _ _ _ h => h) (Or.inl ⟨by rfl, fun w' hS' => ?_⟩) sx ?_
          · obtain ⟨q0, q1, q2, q3, q6, q11⟩ := hS'
            go_simp
          simp only [List.getElem_toArray, List.getElem_cons_succ, List.getElem_cons_zero, Act.put, List.setIfInBounds_toArray, List.set_cons_succ, List.set_cons_zero, Nat.reduceAdd]
          refine wpAnyH_take (i := 7) (v := .bool false) rfl (by kernel_rfl) (by kernel_rfl) (by kernel_rfl) (fun _ _ _ h => h) (Or.inl ⟨by rfl, fun w' hS' => by rfl⟩) sx ?_
          simp only [List.getElem_toArray, List.getElem_cons_succ, List.getElem_cons_zero, Act.put, List.setIfInBounds_toArray, List.set_cons_succ, List.set_cons_zero, Nat.reduceAdd]
          refine wpAnyH_take (i := 8) (v := undef) rfl (by kernel_rfl) (by kernel_rfl) (by kernel_rfl) (fun _ _ _ h => h) (Or.inr ⟨by rfl, rfl⟩) sx ?_
          simp only [List.getElem_toArray, List.getElem_cons_succ, List.getElem_cons_zero, Act.put, List.setIfInBounds_toArray, List.set_cons_succ, List.set_cons_zero, Nat.reduceAdd]
          refine wpAnyH_take (i := 9) (v := undef) rfl (by kernel_rfl) (by kernel_rfl) (by kernel_rfl) (fun _ _ _ h => h) (Or.inr ⟨by rfl, rfl⟩) sx ?_
          simp only [List.getElem_toArray, List.getElem_cons_succ, List.getElem_cons_zero, Act.put, List.setIfInBounds_toArray, List.set_cons_succ, List.set_cons_zero, Nat.reduceAdd]
          refine wpAnyH_take (i := 10) (v := undef) rfl (by kernel_rfl) (by kernel_rfl) (by kernel_rfl) (fun _ _ _ h => h) (Or.inr ⟨by rfl, rfl⟩) sx ?_
          simp only [List.getElem_toArray, List.getElem_cons_succ, List.getElem_cons_zero, Act.put, List.setIfInBounds_toArray, List.set_cons_succ, List.set_cons_zero, Nat.reduceAdd]
          refine wpAnyH_take (i := 11) (v := undef) rfl (by kernel_rfl) (by kernel_rfl) (by kernel_rfl) (fun _ _ _ h => h) (Or.inr ⟨by rfl, rfl⟩) sx ?_
          simp only [List.getElem_toArray, List.getElem_cons_succ, List.getElem_cons_zero, Act.put, List.setIfInBounds_toArray, List.set_cons_succ, List.set_cons_zero, Nat.reduceAdd]
          refine wpAnyH_take (i := 12) (v := undef) rfl (by kernel_rfl) (by kernel_rfl) (by kernel_rfl) (fun _ _ _ h => h) (Or.inr ⟨by rfl, rfl⟩) sx ?_
          simp only [List.getElem_toArray, List.getElem_cons_succ, List.getElem_cons_zero, Act.put, List.setIfInBounds_toArray, List.set_cons_succ, List.set_cons_zero, Nat.reduceAdd]
          refine wpAnyH_take (i := 13) (v := undef) rfl (by kernel_rfl) (by kernel_rfl) (by kernel_rfl) (fun _ _ _ h => h) (Or.inr ⟨by rfl, rfl⟩) sx ?_
          simp only [List.getElem_toArray, List.getElem_cons_succ, List.getElem_cons_zero, Act.put, List.setIfInBounds_toArray, List.set_cons_succ, List.set_cons_zero, Nat.reduceAdd]
          refine wpAnyH_take (i := 14) (v := .bool false) rfl (by kernel_rfl) (by kernel_rfl) (by kernel_rfl) (fun _ _ _ h => h) (Or.inl ⟨by rfl, fun w' hS' => by rfl⟩) sx ?_
          simp only [List.getElem_toArray, List.getElem_cons_succ, List.getElem_cons_zero, Act.put, List.setIfInBounds_toArray, List.set_cons_succ, List.set_cons_zero, Nat.reduceAdd]
          have tq : (((((Vd.setCell ⟨w.heap.size + 1, 0, none⟩ (.int .i64 K)).setCell ⟨w.heap.size + 1, 1, none⟩ (.int .i64 O)).setCell ⟨w.heap.size + 1, 2, none⟩ (.int .i64 S)).setCell ⟨w.heap.size + 1, 3, none⟩ (.slice a' Z.length c'))).cell? ⟨Bn, 0, none⟩ = some (.int .i64 K) ∧ (((((Vd.setCell ⟨w.heap.size + 1, 0, none⟩ (.int .i64 K)).setCell ⟨w.heap.size + 1, 1, none⟩ (.int .i64 O)).setCell ⟨w.heap.size + 1, 2, none⟩ (.int .i64 S)).setCell ⟨w.heap.size + 1, 3, none⟩ (.slice a' Z.length c'))).cell? ⟨Bn, 1, none⟩ = some (.int .i64 O) ∧ (((((Vd.setCell ⟨w.heap.size + 1, 0, none⟩ (.int .i64 K)).setCell ⟨w.heap.size + 1, 1, none⟩ (.int .i64 O)).setCell ⟨w.heap.size + 1, 2, none⟩ (.int .i64 S)).setCell ⟨w.heap.size + 1, 3, none⟩ (.slice a' Z.length c'))).cell? ⟨Bn, 2, none⟩ = some (.int .i64 S) ∧ (((((Vd.setCell ⟨w.heap.size + 1, 0, none⟩ (.int .i64 K)).setCell ⟨w.heap.size + 1, 1, none⟩ (.int .i64 O)).setCell ⟨w.heap.size + 1, 2, none⟩ (.int .i64 S)).setCell ⟨w.heap.size + 1, 3, none⟩ (.slice a' Z.length c'))).cell? ⟨Bn, 3, none⟩ = some (.slice a' Z.length c') ∧ (((((Vd.setCell ⟨w.heap.size + 1, 0, none⟩ (.int .i64 K)).setCell ⟨w.heap.size + 1, 1, none⟩ (.int .i64 O)).setCell ⟨w.heap.size + 1, 2, none⟩ (.int .i64 S)).setCell ⟨w.heap.size + 1, 3, none⟩ (.slice a' Z.length c'))).cell? ⟨w.heap.size, 6, none⟩ = some (.int .i64 d.cl) ∧ (((((Vd.setCell ⟨w.heap.size + 1, 0, none⟩ (.int .i64 K)).setCell ⟨w.heap.size + 1, 1, none⟩ (.int .i64 O)).setCell ⟨w.heap.size + 1, 2, none⟩ (.int .i64 S)).setCell ⟨w.heap.size + 1, 3, none⟩ (.slice a' Z.length c'))).cell? ⟨w.heap.size, 11, none⟩ = some (.slice s.a2 d.po.length s.c2) := ⟨qn.c0, qn.c1, qn.c2, qn.c3, qb.cell 6 (by simp), qb.cell 11 (by simp)⟩
          refine Y0.one_skip (i := 15) (w' := (((Vd.setCell ⟨w.heap.size + 1, 0, none⟩ (.int .i64 K)).setCell ⟨w.heap.size + 1, 1, none⟩ (.int .i64 O)).setCell ⟨w.heap.size + 1, 2, none⟩ (.int .i64 S)).setCell ⟨w.heap.size + 1, 3, none⟩ (.slice a' Z.length c')) (by kernel_rfl) rfl (by rfl) ?_ tq ?_
          · go_simp
          simp only [List.getElem_toArray, List.getElem_cons_succ, List.getElem_cons_zero, Act.put, List.setIfInBounds_toArray, List.set_cons_succ, List.set_cons_zero, Nat.reduceAdd]
          refine wpAnyH_take (i := 16) (v := .bool false) rfl (by kernel_rfl) (by kernel_rfl) (by kernel_rfl) (fun _ _ _ h => h) (Or.inl ⟨by rfl, fun w' hS' => by rfl⟩) tq ?_
          simp only [List.getElem_toArray, List.getElem_cons_succ, List.getElem_cons_zero, Act.put, List.setIfInBounds_toArray, List.set_cons_succ, List.set_cons_zero, Nat.reduceAdd]
          refine wpAnyH_done (by kernel_rfl) ?_ _
          go_wp2
          exact bodyPost_ret (v := .tuple #[I0.val K O S a' Z.length c', .bool false]) (by simp [results, Tryz.results128, go_sem, v0, v1, v2, v3]) rfl (HN.out _ _ _ _ _ _ _ (HP.out.trans (Bool.false_and _)) hbl)
        | true =>
          refine wp_region_held_drew (S := fun W => W.cell? ⟨Bn, 0, none⟩ = some (.int .i64 K) ∧ W.cell? ⟨Bn, 1, none⟩ = some (.int .i64 O) ∧ W.cell? ⟨Bn, 2, none⟩ = some (.int .i64 S) ∧ W.cell? ⟨Bn, 3, none⟩ = some (.slice a' Z.length c') ∧ W.cell? ⟨w.heap.size, 6, none⟩ = some (.int .i64 d.cl) ∧ W.cell? ⟨w.heap.size, 11, none⟩ = some (.slice s.a2 d.po.length s.c2)) (by kernel_rfl) sx ?_
          intro _
          generalize V.drew = Vd at *
          refine wpAnyH_take (i := 0) (v := I0.val K O S a' Z.length c') rfl (by kernel_rfl) (by kernel_rfl) (by kernel_rfl) (fun _ _ _ h => h) (Or.inl ⟨by rfl, fun w' hS' => ?_⟩) sx ?_
          · obtain ⟨q0, q1, q2, q3, q6, q11⟩ := hS'
            go_simp
          simp only [List.getElem_toArray, List.getElem_cons_succ, List.getElem_cons_zero, Act.put, List.setIfInBounds_toArray, List.set_cons_succ, List.set_cons_zero, Nat.reduceAdd]
          refine wpAnyH_take (i := 1) (v := .pointer (some ⟨Bn, 1, none⟩)) rfl (by kernel_rfl) (by kernel_rfl) (by kernel_rfl) (fun _ _ _ h => h) (Or.inl ⟨by rfl, fun w' hS' => ?_⟩) sx ?_
          · obtain ⟨q0, q1, q2, q3, q6, q11⟩ := hS'
            go_simp
          simp only [List.getElem_toArray, List.getElem_cons_succ, List.getElem_cons_zero, Act.put, List.setIfInBounds_toArray, List.set_cons_succ, List.set_cons_zero, Nat.reduceAdd]
          refine wpAnyH_take (i := 2) (v := .int .i64 O) rfl (by kernel_rfl) (by kernel_rfl) (by kernel_rfl) (fun _ _ _ h => h) (Or.inl ⟨by rfl, fun w' hS' => ?_⟩) sx ?_
          · obtain ⟨q0, q1, q2, q3, q6, q11⟩ := hS'
            go_simp
          simp only [List.getElem_toArray, List.getElem_cons_succ, List.getElem_cons_zero, Act.put, List.setIfInBounds_toArray, List.set_cons_succ, List.set_cons_zero, Nat.reduceAdd]
          refine wpAnyH_take (i := 3) (v := .pointer (some ⟨w.heap.size, 5, none⟩)) rfl (by kernel_rfl) (by kernel_rfl) (by kernel_rfl) (fun _ _ _ h => h) (Or.inl ⟨by rfl, fun w' hS' => ?_⟩) sx ?_
          · obtain ⟨q0, q1, q2, q3, q6, q11⟩ := hS'
            go_simp
          simp only [List.getElem_toArray, List.getElem_cons_succ, List.getElem_cons_zero, Act.put, List.setIfInBounds_toArray, List.set_cons_succ, List.set_cons_zero, Nat.reduceAdd]
          refine wpAnyH_take (i := 4) (v := .pointer (some ⟨w.heap.size, 6, none⟩)) rfl (by kernel_rfl) (by kernel_rfl) (by kernel_rfl) (fun _ _ _ h => h) (Or.inl ⟨by rfl, fun w' hS' => ?_⟩) sx ?_
          · obtain ⟨q0, q1, q2, q3, q6, q11⟩ := hS'
            go_simp
          simp only [List.getElem_toArray, List.getElem_cons_succ, List.getElem_cons_zero, Act.put, List.setIfInBounds_toArray, List.set_cons_succ, List.set_cons_zero, Nat.reduceAdd]
          refine wpAnyH_take (i := 5) (v := .int .i64 d.cl) rfl (by kernel_rfl) (by kernel_rfl) (by kernel_rfl) (fun _ _ _ h => h) (Or.inl ⟨by rfl, fun w' hS' => ?_⟩) sx ?_
          · obtain ⟨q0, q1, q2, q3, q6, q11⟩ := hS'
            go_simp
          simp only [List.getElem_toArray, List.getElem_cons_succ, List.getElem_cons_zero, Act.put, List.setIfInBounds_toArray, List.set_cons_succ, List.set_cons_zero, Nat.reduceAdd]
          refine wpAnyH_take (i := 6) (v := .bool true) rfl (by kernel_rfl) (by kernel_rfl) (by kernel_rfl) (fun _ _ _ h => h) (Or.inl ⟨by rfl, fun w' hS' => ?_⟩) sx ?_
          · obtain ⟨q0, q1, q2, q3, q6, q11⟩ := hS'
            go_simp
          simp only [List.getElem_toArray, List.getElem_cons_succ, List.getElem_cons_zero, Act.put, List.setIfInBounds_toArray, List.set_cons_succ, List.set_cons_zero, Nat.reduceAdd]
          refine wpAnyH_take (i := 7) (v := .bool true) rfl (by kernel_rfl) (by kernel_rfl) (by kernel_rfl) (fun _ _ _ h => h) (Or.inl ⟨by rfl, fun w' hS' => by rfl⟩) sx ?_
          simp only [List.getElem_toArray, List.getElem_cons_succ, List.getElem_cons_zero, Act.put, List.setIfInBounds_toArray, List.set_cons_succ, List.set_cons_zero, Nat.reduceAdd]
          refine wpAnyH_take (i := 8) (v := .pointer (some ⟨Bn, 3, none⟩)) rfl (by kernel_rfl) (by kernel_rfl) (by kernel_rfl) (fun _ _ _ h => h) (Or.inl ⟨by rfl, fun w' hS' => ?_⟩) sx ?_
          · obtain ⟨q0, q1, q2, q3, q6, q11⟩ := hS'
            go_simp
          simp only [List.getElem_toArray, List.getElem_cons_succ, List.getElem_cons_zero, Act.put, List.setIfInBounds_toArray, List.set_cons_succ, List.set_cons_zero, Nat.reduceAdd]
          refine wpAnyH_take (i := 9) (v := (.slice a' Z.length c')) rfl (by kernel_rfl) (by kernel_rfl) (by kernel_rfl) (fun _ _ _ h => h) (Or.inl ⟨by rfl, fun w' hS' => ?_⟩) sx ?_
          · obtain ⟨q0, q1, q2, q3, q6, q11⟩ := hS'
            go_simp
          simp only [List.getElem_toArray, List.getElem_cons_succ, List.getElem_cons_zero, Act.put, List.setIfInBounds_toArray, List.set_cons_succ, List.set_cons_zero, Nat.reduceAdd]
          refine wpAnyH_take (i := 10) (v := .pointer (some ⟨w.heap.size, 5, none⟩)) rfl (by kernel_rfl) (by kernel_rfl) (by kernel_rfl) (fun _ _ _ h => h) (Or.inl ⟨by rfl, fun w' hS' => ?_⟩) sx ?_
          · obtain ⟨q0, q1, q2, q3, q6, q11⟩ := hS'
            go_simp
          simp only [List.getElem_toArray, List.getElem_cons_succ, List.getElem_cons_zero, Act.put, List.setIfInBounds_toArray, List.set_cons_succ, List.set_cons_zero, Nat.reduceAdd]
          refine wpAnyH_take (i := 11) (v := .pointer (some ⟨w.heap.size, 11, none⟩)) rfl (by kernel_rfl) (by kernel_rfl) (by kernel_rfl) (fun _ _ _ h => h) (Or.inl ⟨by rfl, fun w' hS' => ?_⟩) sx ?_
          · obtain ⟨q0, q1, q2, q3, q6, q11⟩ := hS'
            go_simp
          simp only [List.getElem_toArray, List.getElem_cons_succ, List.getElem_cons_zero, Act.put, List.setIfInBounds_toArray, List.set_cons_succ, List.set_cons_zero, Nat.reduceAdd]
          refine wpAnyH_take (i := 12) (v := (.slice s.a2 d.po.length s.c2)) rfl (by kernel_rfl) (by kernel_rfl) (by kernel_rfl) (fun _ _ _ h => h) (Or.inl ⟨by rfl, fun w' hS' => ?_⟩) sx ?_
          · obtain ⟨q0, q1, q2, q3, q6, q11⟩ := hS'
            go_simp
          simp only [List.getElem_toArray, List.getElem_cons_succ, List.getElem_cons_zero, Act.put, List.setIfInBounds_toArray, List.set_cons_succ, List.set_cons_zero, Nat.reduceAdd]
          refine Y0.one_call2w (i := 13) (by kernel_rfl) rfl (by rfl) (.tmp 52) (.tmp 55) _ rfl (Value.slice a' Z.length c') (Value.slice s.a2 d.po.length s.c2) (by rfl) (by rfl) (enters_of Tryz.func94 (by kernel_rfl) rfl) ((hal).mono ?_)
          rintro e wl ⟨rfl, hwl⟩
          rw [hwl]
          refine ⟨_, rfl, sx, ?_⟩
          simp only [List.getElem_toArray, List.getElem_cons_succ, List.getElem_cons_zero, Act.put, List.setIfInBounds_toArray, List.set_cons_succ, List.set_cons_zero, Nat.reduceAdd]
          refine wpAnyH_take (i := 14) (v := .bool am) rfl (by kernel_rfl) (by kernel_rfl) (by kernel_rfl) (fun _ _ _ h => h) (Or.inl ⟨by rfl, fun w' hS' => by rfl⟩) sx ?_
          simp only [List.getElem_toArray, List.getElem_cons_succ, List.getElem_cons_zero, Act.put, List.setIfInBounds_toArray, List.set_cons_succ, List.set_cons_zero, Nat.reduceAdd]
          have tq : (((((Vd.setCell ⟨w.heap.size + 1, 0, none⟩ (.int .i64 K)).setCell ⟨w.heap.size + 1, 1, none⟩ (.int .i64 O)).setCell ⟨w.heap.size + 1, 2, none⟩ (.int .i64 S)).setCell ⟨w.heap.size + 1, 3, none⟩ (.slice a' Z.length c'))).cell? ⟨Bn, 0, none⟩ = some (.int .i64 K) ∧ (((((Vd.setCell ⟨w.heap.size + 1, 0, none⟩ (.int .i64 K)).setCell ⟨w.heap.size + 1, 1, none⟩ (.int .i64 O)).setCell ⟨w.heap.size + 1, 2, none⟩ (.int .i64 S)).setCell ⟨w.heap.size + 1, 3, none⟩ (.slice a' Z.length c'))).cell? ⟨Bn, 1, none⟩ = some (.int .i64 O) ∧ (((((Vd.setCell ⟨w.heap.size + 1, 0, none⟩ (.int .i64 K)).setCell ⟨w.heap.size + 1, 1, none⟩ (.int .i64 O)).setCell ⟨w.heap.size + 1, 2, none⟩ (.int .i64 S)).setCell ⟨w.heap.size + 1, 3, none⟩ (.slice a' Z.length c'))).cell? ⟨Bn, 2, none⟩ = some (.int .i64 S) ∧ (((((Vd.setCell ⟨w.heap.size + 1, 0, none⟩ (.int .i64 K)).setCell ⟨w.heap.size + 1, 1, none⟩ (.int .i64 O)).setCell ⟨w.heap.size + 1, 2, none⟩ (.int .i64 S)).setCell ⟨w.heap.size + 1, 3, none⟩ (.slice a' Z.length c'))).cell? ⟨Bn, 3, none⟩ = some (.slice a' Z.length c') ∧ (((((Vd.setCell ⟨w.heap.size + 1, 0, none⟩ (.int .i64 K)).setCell ⟨w.heap.size + 1, 1, none⟩ (.int .i64 O)).setCell ⟨w.heap.size + 1, 2, none⟩ (.int .i64 S)).setCell ⟨w.heap.size + 1, 3, none⟩ (.slice a' Z.length c'))).cell? ⟨w.heap.size, 6, none⟩ = some (.int .i64 d.cl) ∧ (((((Vd.setCell ⟨w.heap.size + 1, 0, none⟩ (.int .i64 K)).setCell ⟨w.heap.size + 1, 1, none⟩ (.int .i64 O)).setCell ⟨w.heap.size + 1, 2, none⟩ (.int .i64 S)).setCell ⟨w.heap.size + 1, 3, none⟩ (.slice a' Z.length c'))).cell? ⟨w.heap.size, 11, none⟩ = some (.slice s.a2 d.po.length s.c2) := ⟨qn.c0, qn.c1, qn.c2, qn.c3, qb.cell 6 (by simp), qb.cell 11 (by simp)⟩
          refine Y0.one_skip (i := 15) (w' := (((Vd.setCell ⟨w.heap.size + 1, 0, none⟩ (.int .i64 K)).setCell ⟨w.heap.size + 1, 1, none⟩ (.int .i64 O)).setCell ⟨w.heap.size + 1, 2, none⟩ (.int .i64 S)).setCell ⟨w.heap.size + 1, 3, none⟩ (.slice a' Z.length c')) (by kernel_rfl) rfl (by rfl) ?_ tq ?_
          · go_simp
          simp only [List.getElem_toArray, List.getElem_cons_succ, List.getElem_cons_zero, Act.put, List.setIfInBounds_toArray, List.set_cons_succ, List.set_cons_zero, Nat.reduceAdd]
          refine wpAnyH_take (i := 16) (v := .bool am) rfl (by kernel_rfl) (by kernel_rfl) (by kernel_rfl) (fun _ _ _ h => h) (Or.inl ⟨by rfl, fun w' hS' => by rfl⟩) tq ?_
          simp only [List.getElem_toArray, List.getElem_cons_succ, List.getElem_cons_zero, Act.put, List.setIfInBounds_toArray, List.set_cons_succ, List.set_cons_zero, Nat.reduceAdd]
          refine wpAnyH_done (by kernel_rfl) ?_ _
          go_wp2
          refine bodyPost_ret (v := .tuple #[I0.val K O S a' Z.length c', .bool am]) (by simp [results, Tryz.results128, go_sem, v0, v1, v2, v3]) rfl ?_
          cases am with
          | false => exact HN.out _ _ _ _ _ _ _ (HP.out.trans (Bool.and_false _)) hbl
          | true => exact HY.out _ _ _ _ _ _ (HP.out.trans rfl) hbl hc (oq.mono (by omega))
    exact hgo
end Go.Proofs.YtddlpejklpljoaaGreat.D2

/- The contract of impl.tenure's entriesOk, as the given laws call it. -/
namespace Go.Proofs.YtddlpejklpljoaaGreat.D3
open Go.ChangeShapes Go.WideShapes Go.ChangeAt Go.RowKit
set_option linter.unusedVariables false
set_option linter.unusedSimpArgs false
set_option maxRecDepth 10000

open N0 (Ln)
open N1 (Sl)
open P1 (ret_bool)
open J0 (IBuf Own)

/-- An inode that was in the lent directory. -/
def had (d : Ln) (x : Int) : Bool := P0.has (D0.inos (N5.oldE d)) x
def xk (es : List T0.Ent) (k : Nat) : Int := (T0.ent es k).1
def entAt (mem : ByteArray) (d : Ln) (es : List T0.Ent) (i : Nat) : Bool := had d (xk es i) || D2.newOk mem d (xk es i)

/-- The pages of a directory and of all that is new in it. -/
def gath (mem : ByteArray) (d : Ln) (Z : List Int) (es : List T0.Ent) : Nat → List Int
  | 0 => Z
  | k + 1 => if had d (xk es k) then gath mem d Z es k else gath mem d Z es k ++ G0.gZ (O0.recd mem (xk es k))

def entOk (mem : ByteArray) (d : Ln) (Z : List Int) (es : List T0.Ent) : Bool := N0.to (entAt mem d es) es.length && P0.pagesOk (gath mem d Z es es.length)

theorem gZ_len (u : ByteArray) : (G0.gZ u).length ≤ 100 := by
  unfold G0.gZ
  split
  · rw [G0.pgs_length]
    have := G0.cnt_le u
    omega
  · exact Nat.zero_le _

theorem gath_len (mem : ByteArray) (d : Ln) (Z : List Int) (es : List T0.Ent) : ∀ k, (gath mem d Z es k).length ≤ Z.length + 100 * k
  | 0 => by simp [gath]
  | k + 1 => by
    have h := gath_len mem d Z es k
    rw [gath]
    split
    · omega
    · rw [List.length_append]
      have := gZ_len (O0.recd mem (xk es k))
      omega

/-- The boxes of entriesOk. -/
structure En (w : World) (ts ns : List Value) (W : World) : Prop where
  box : K0.Blk w.heap.size ts W
  nb : K0.Blk (w.heap.size + 1) ns W
  bel : Below w.heap.size w W
  lt : w.heap.size + 2 ≤ W.heap.size
variable {w W W' : World} {ts ns : List Value}
theorem En.below (h : En w ts ns W) (hb : Below W.heap.size W W') : En w ts ns W' := ⟨h.box.below hb, h.nb.below hb, h.bel.trans (hb.mono h.bel.size), Nat.le_trans h.lt hb.size⟩
theorem En.keep (h : En w ts ns W) (hb : Below (w.heap.size + 2) W W') : En w ts ns W' := ⟨J0.blk_keep h.box hb (by omega), J0.blk_keep h.nb hb (by omega), h.bel.trans (hb.mono (by omega)), Nat.le_trans h.lt hb.size⟩

theorem en_new (w : World) (ts ns : List Value) (T T' : TypeId) : En w ts ns ((w.alloc (.cells ts.toArray T)).alloc (.cells ns.toArray T')) :=
  ⟨(K0.blk_new ts w T).alloc _, K0.blk_at ns _ T' (by simp), ((Below.refl _ _).alloc (Nat.le_refl _) _).alloc (by simp) _, by simp⟩

theorem cells5 {B : Nat} {x0 x1 x2 x3 x4 : Value} {l : List Value} (h : K0.Blk B (x0 :: x1 :: x2 :: x3 :: x4 :: l) W) : W.cell? ⟨B, 0, none⟩ = some x0 ∧ W.cell? ⟨B, 1, none⟩ = some x1 ∧ W.cell? ⟨B, 2, none⟩ = some x2 ∧ W.cell? ⟨B, 3, none⟩ = some x3 ∧ W.cell? ⟨B, 4, none⟩ = some x4 := ⟨h.cell 0 (by simp), h.cell 1 (by simp), h.cell 2 (by simp), h.cell 3 (by simp), h.cell 4 (by simp)⟩

set_option maxHeartbeats 4000000 in
theorem entriesOk (k o t : Int) (a : Option Addr) (n c : Nat) (ae : Option Addr) (ce : Nat) (d : Ln) (s : Sl) (mem : ByteArray) (k2 o2 t2 : Int) (a2 : Option Addr) (c2 : Nat) (x2 : ByteArray) (ae2 : Option Addr) (ce2 : Nat) (Z : List Int) (es : List T0.Ent) (w : World)
    (hms : mem.size ≤ 281474976710656) (hpo : d.po.length ≤ 1048576) (hfr : d.fr.length ≤ 1048576) (hZ : Z.length ≤ 1000) (hes : es.length ≤ 13) (hold : (N5.oldE d).length ≤ 13) (P2 : P0.Row w s.a2 d.po) (P3 : P0.Row w s.a3 d.fr) (PE : T0.Row w ae (N5.oldE d)) (PZ : P0.Row w a2 Z) (PS : T0.Row w ae2 es) :
    Calls Tryz.prog 96 #[N7.tv k o t a n c ae (N5.oldE d).length ce d s, .string mem, D1.nv k2 o2 t2 a2 Z.length c2 x2 ae2 es.length ce2] w fun e w' => e = .returned (.bool (entOk mem d Z es)) ∧ Below w.heap.size w w' := by
  have e0 := en_new w (N7.tvs k o t a n c ae (N5.oldE d).length ce d s) (D1.nvs k2 o2 t2 a2 Z.length c2 x2 ae2 es.length ce2) 75 121
  have HE : Hid (∀ W, Below w.heap.size w W → T0.Row W ae (N5.oldE d)) := fun W hb => PE.below hb
  have HS : Hid (∀ W, Below w.heap.size w W → T0.Row W ae2 es) := fun W hb => PS.below hb
  have HNew : Hid (∀ x W, Below w.heap.size w W → Calls Tryz.prog 128 #[N7.tv k o t a n c ae (N5.oldE d).length ce d s, .string mem, .int .i64 x] W (D2.Ans mem d x W)) := fun x W hb => D2.newInode k o t a n c ae _ ce d s mem x W hms hpo hfr (P2.below hb) (P3.below hb)
  have HHad : Hid (∀ x W, Below w.heap.size w W → Calls Tryz.prog 127 #[N5.pv k o t a n c ae (N5.oldE d).length ce, .int .i64 x] W fun e w' => e = .returned (.bool (had d x)) ∧ Below W.heap.size W w') := fun x W hb => D0.had k o t a n c ae ce (N5.oldE d) x W (by omega) (PE.below hb)
  have HC : Hid (Calls Tryz.prog 126 #[.slice a2 Z.length c2] ((w.alloc (N7.tObj k o t a n c ae (N5.oldE d).length ce d s)).alloc (.cells #[.int .i64 k2, .int .i64 o2, .int .i64 t2, .slice a2 Z.length c2, .string x2, .slice ae2 es.length ce2] 121)) fun e w' => ∃ a' c', e = .returned (.slice a' Z.length c') ∧ IBuf (w.heap.size + 2) w' a' Z.length c' Z ∧ Below ((w.alloc (N7.tObj k o t a n c ae (N5.oldE d).length ce d s)).alloc (.cells #[.int .i64 k2, .int .i64 o2, .int .i64 t2, .slice a2 Z.length c2, .string x2, .slice ae2 es.length ce2] 121)).heap.size ((w.alloc (N7.tObj k o t a n c ae (N5.oldE d).length ce d s)).alloc (.cells #[.int .i64 k2, .int .i64 o2, .int .i64 t2, .slice a2 Z.length c2, .string x2, .slice ae2 es.length ce2] 121)) w') :=
    (D0.clone a2 c2 Z _ hZ (PZ.below e0.bel)).mono fun e w' ⟨a', c', he, hb, hl⟩ => ⟨a', c', he, by simpa using hb, hl⟩
  obtain ⟨oE, hoE⟩ : ∃ oE, (N5.oldE d).length = oE := ⟨_, rfl⟩
  rw [hoE] at e0 HNew HHad HC ⊢
  clear PE PS PZ P2 P3 hoE HE
  go_enter Tryz.func96, Tryz.ntmps96
  go_wp2_with (go_at_call 126; refine HC.out.mono ?_; rintro e w1 ⟨a', c', rfl, hb1, l1⟩; have n1 := e0.below l1; obtain ⟨-, -, -, -, -, z5⟩ := D1.cells6 n1.nb)
  go_loopw [7, 19] (fun v i w' => ∃ (j cp : Nat) (p : Option Addr), j ≤ es.length ∧ i = .int .i64 j ∧ v = .slice p (gath mem d Z es j).length cp ∧ IBuf (w.heap.size + 2) w' p (gath mem d Z es j).length cp (gath mem d Z es j) ∧ N0.to (entAt mem d es) j = true ∧ En w (N7.tvs k o t a n c ae oE ce d s) (D1.nvs k2 o2 t2 a2 Z.length c2 x2 ae2 es.length ce2) w') (fun _ i _ => es.length - (intOf i).toNat)
  case atStart => exact ⟨0, c', a', Nat.zero_le _, rfl, rfl, hb1, rfl, n1⟩
  case round =>
    obtain ⟨j, cp, p, hj, rfl, rfl, hbuf, hok, hr⟩ := hrel
    clear hb1 n1 e0 z5 l1 HC
    have hgl := gath_len mem d Z es j
    by_cases hlt : j < es.length
    · obtain ⟨b, off, hab, _, hc⟩ := (HS.out _ hr.bel).get hlt
      obtain ⟨y1, y2⟩ := hc j hlt
      have hat : entAt mem d es j = (had d (T0.ent es j).1 || D2.newOk mem d (T0.ent es j).1) := rfl
      have hga : gath mem d Z es (j + 1) = if had d (T0.ent es j).1 then gath mem d Z es j else gath mem d Z es j ++ G0.gZ (O0.recd mem (T0.ent es j).1) := rfl
      obtain ⟨z, ez⟩ : ∃ z, T0.ent es j = z := ⟨_, rfl⟩
      rw [ez] at y1 y2 hat hga
      obtain ⟨x, nm⟩ := z
      simp only at y1 y2 hat hga
      rw [hab]
      have e1 : (0 : Int) ≤ (j : Int) := by omega
      have e2 : (j : Int) < (es.length : Int) := by omega
      have n0 := K0.below_new wr (.cells #[.int .i64 x, .string nm] 85)
      have kx := K0.blk_new [.int .i64 x, .string nm] wr 85
      have h5 := hr.below n0
      obtain ⟨c0, c1, c2', c3, c4⟩ := cells5 h5.box
      clear ez hc
      cases hh : had d x with
      | true =>
        have HG : Hid (gath mem d Z es (j + 1) = gath mem d Z es j) := by show _ = _; rw [hga, hh]; rfl
        have HO : Hid (N0.to (entAt mem d es) (j + 1) = true) := N0.to_step hok (by rw [hat, hh]; rfl)
        have HH1 := HHad.out x
        rw [hh] at HH1
        clear hat hga hok HNew hh
        go_wp2_with (go_at_call 127; refine (HH1 _ h5.bel).mono ?_; rintro e w5 ⟨rfl, b5⟩; have h6 := h5.below b5; have f6 := n0.trans (b5.mono n0.size))
        go_roundw
        case rel => exact ⟨j + 1, cp, p, by omega, by go_num, by rw [HG.out], by rw [HG.out]; exact hbuf.below f6, HO.out, hab ▸ h6⟩
        case measure => simp [intOf]; omega
      | false =>
        have HH1 := HHad.out x
        rw [hh] at HH1
        have HN1 : Hid (∀ W, Below w.heap.size w W → Calls Tryz.prog 128 #[N7.tv k o t a n c ae oE ce d s, .string mem, .int .i64 x] W fun e w' => ∃ (k3 o3 t3 : Int) (a3 : Option Addr) (n3 c3 : Nat), e = .returned (.tuple #[I0.val k3 o3 t3 a3 n3 c3, .bool (D2.newOk mem d x)]) ∧ Below W.heap.size W w' ∧ (D2.newOk mem d x = true → n3 = (G0.gZ (O0.recd mem x)).length ∧ n3 ≤ c3 ∧ Own W.heap.size w' a3 (G0.gZ (O0.recd mem x)))) := fun W hb => HNew.out x W hb
        have hyl := gZ_len (O0.recd mem x)
        cases hn : D2.newOk mem d x with
        | true =>
          have HG : Hid (gath mem d Z es (j + 1) = gath mem d Z es j ++ G0.gZ (O0.recd mem x)) := by show _ = _; rw [hga, hh]; rfl
          have HO : Hid (N0.to (entAt mem d es) (j + 1) = true) := N0.to_step hok (by rw [hat, hh, hn]; rfl)
          rw [hn] at HN1
          obtain ⟨Y, hY⟩ : ∃ Y, G0.gZ (O0.recd mem x) = Y := ⟨_, rfl⟩
          rw [hY] at HN1 HG hyl
          obtain ⟨G, hG⟩ : ∃ G, gath mem d Z es j = G := ⟨_, rfl⟩
          rw [hG] at HG hbuf hgl ⊢
          clear hat hga hok HNew hh hn hY hG
          go_wp2_with (first
            | (go_at_call 127; refine (HH1 _ h5.bel).mono ?_; rintro e w5 ⟨rfl, b5⟩; have h6 := h5.below b5; have f6 := n0.trans (b5.mono n0.size); have kx6 := kx.below b5; have q0 := kx6.c0; obtain ⟨d0, d1, d2, d3, d4, d5, d6, d7, d8, d9, d10, d11, d12⟩ := N9.cells13 h6.box)
            | (go_at_call 128; refine (HN1.out _ h6.bel).mono ?_; rintro e w7 ⟨k3, o3, t3, a3, n3, c3, rfl, b7, hy⟩; obtain ⟨rfl, hcy, hoy⟩ := hy trivial; have n8 := K0.below_new w7 (.cells #[.int .i64 k3, .int .i64 o3, .int .i64 t3, .slice a3 Y.length c3] 45); have h8 := (h6.below b7).below n8; have f7 := f6.trans (b7.mono f6.size); have f8 := f7.trans (n8.mono f7.size); have hrow := hoy.row.below n8; have hbuf8 := hbuf.below f8)
            | (at_builtin; refine Q1.append_rows rfl (.tmp 38) (.tmp 40) rfl hbuf8 _ _ Y (by rfl) (by rfl) hrow (by omega) h8.lt ?_; intro a9 c9 w9 hbuf9 l9; have h9 := h8.keep l9))
          go_roundw
          case rel => exact ⟨j + 1, c9, a9, by omega, by go_num, by rw [HG.out, List.length_append], by rw [HG.out, List.length_append]; exact hbuf9, HO.out, hab ▸ h9⟩
          case measure => simp [intOf]; omega
        | false =>
          have HR : Hid (entOk mem d Z es = false) := by
            show entOk mem d Z es = false
            rw [entOk, N0.to_bad hlt (by rw [hat, hh, hn]; rfl), Bool.false_and]
          rw [hn] at HN1
          clear hat hga hok HNew hh hn
          go_wp2_with (first
            | (go_at_call 127; refine (HH1 _ h5.bel).mono ?_; rintro e w5 ⟨rfl, b5⟩; have h6 := h5.below b5; have f6 := n0.trans (b5.mono n0.size); have kx6 := kx.below b5; have q0 := kx6.c0; obtain ⟨d0, d1, d2, d3, d4, d5, d6, d7, d8, d9, d10, d11, d12⟩ := N9.cells13 h6.box)
            | (go_at_call 128; refine (HN1.out _ h6.bel).mono ?_; rintro e w7 ⟨k3, o3, t3, a3, n3, c3, rfl, b7, hy⟩; have n8 := K0.below_new w7 (.cells #[.int .i64 k3, .int .i64 o3, .int .i64 t3, .slice a3 n3 c3] 45); have h8 := (h6.below b7).below n8))
          go_ret
          exact ⟨ret_bool HR.out.symm, h8.bel⟩
    · obtain rfl : j = es.length := by omega
      have HR : Hid (P0.pagesOk (gath mem d Z es es.length) = entOk mem d Z es) := by show _ = _; rw [entOk, hok, Bool.true_and]
      have HP := P1.pagesOk p cp (gath mem d Z es es.length) wr (by omega) hbuf.fits hbuf.own.row
      clear hok hbuf
      go_wp2_with (go_at_call 119; refine HP.mono ?_; rintro e w9 ⟨rfl, rfl⟩)
      go_ret
      exact ⟨ret_bool HR.out, hr.bel⟩
end Go.Proofs.YtddlpejklpljoaaGreat.D3
