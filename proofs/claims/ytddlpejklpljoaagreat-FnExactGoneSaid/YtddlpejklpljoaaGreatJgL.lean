/- Joined texts: plain facts and contracts, as each part says. -/
import Derived.Test.YtddlpejklpljoaaGreatJgK
import Derived.Test.YtddlpejklpljoaaGreatJgF
import Derived.Deep.RegionHeld3

/- The contract of impl.lookBack, as the given laws call it. -/
namespace Go.Proofs.YtddlpejklpljoaaGreat.D6
open Go.ChangeShapes Go.WideShapes Go.ChangeAt Go.RowKit
set_option linter.unusedVariables false
set_option linter.unusedSimpArgs false
set_option maxRecDepth 10000

open N0 (Ln)
open N1 (Sl Lists Fit LB)
open N5 (oldE)
open N7 (tv tvs tObj)
open N9 (RL rl_new ln0 sl0 cells13 free13 W13 put13 other13 bel13)
open D1 (nv nvs nodeOk nodeE cells6)

/-- The record has the kind and the owner that it had. -/
def like (mem : ByteArray) (d : Ln) : Bool := decide (G0.gK (O0.recd mem d.ino) = G0.gK d.rc) && decide (G0.gO (O0.recd mem d.ino) = G0.gO d.rc)

/-- What Verdict answers. -/
def verdict (mem : ByteArray) (d : Ln) : Bool := N0.loanOk d && (decide (mem.size = 768) && (nodeOk mem d.ino && (like mem d && (N0.among (G0.gZ (O0.recd mem d.ino)) (d.pg ++ d.po) && D3.entOk mem d (G0.gZ (O0.recd mem d.ino)) (nodeE mem d.ino)))))

theorem verdict_cases (mem : ByteArray) (d : Ln) :
    (N0.loanOk d = false ∧ verdict mem d = false) ∨ (N0.loanOk d = true ∧ ((mem.size : Int) != 768) = true ∧ verdict mem d = false) ∨ (N0.loanOk d = true ∧ mem.size = 768 ∧ nodeOk mem d.ino = false ∧ verdict mem d = false) ∨
    (N0.loanOk d = true ∧ mem.size = 768 ∧ nodeOk mem d.ino = true ∧ like mem d = false ∧ verdict mem d = false) ∨ (N0.loanOk d = true ∧ mem.size = 768 ∧ nodeOk mem d.ino = true ∧ like mem d = true ∧ N0.among (G0.gZ (O0.recd mem d.ino)) (d.pg ++ d.po) = false ∧ verdict mem d = false) ∨
    (N0.loanOk d = true ∧ mem.size = 768 ∧ nodeOk mem d.ino = true ∧ like mem d = true ∧ N0.among (G0.gZ (O0.recd mem d.ino)) (d.pg ++ d.po) = true ∧ verdict mem d = D3.entOk mem d (G0.gZ (O0.recd mem d.ino)) (nodeE mem d.ino)) := by
  unfold verdict
  cases h1 : N0.loanOk d with
  | false => exact Or.inl ⟨rfl, rfl⟩
  | true =>
    right
    by_cases h2 : mem.size = 768
    · right
      rw [decide_eq_true h2]
      cases h3 : nodeOk mem d.ino with
      | false => exact Or.inl ⟨rfl, h2, rfl, rfl⟩
      | true =>
        right
        cases h4 : like mem d with
        | false => exact Or.inl ⟨rfl, h2, rfl, rfl, rfl⟩
        | true =>
          right
          cases h5 : N0.among (G0.gZ (O0.recd mem d.ino)) (d.pg ++ d.po) with
          | false => exact Or.inl ⟨rfl, h2, rfl, rfl, rfl, rfl⟩
          | true => exact Or.inr ⟨rfl, h2, rfl, rfl, rfl, rfl⟩
    · left
      exact ⟨rfl, by simp; omega, by rw [decide_eq_false h2]; rfl⟩

/-- What lookBack answers. -/
def Ans (mem : ByteArray) (d : Ln) (s : Sl) (w : World) (e : Ending) (w' : World) : Prop :=
  ∃ (k o t : Int) (a : Option Addr) (n c : Nat) (ae : Option Addr) (ne ce : Nat) (d' : Ln) (s' : Sl) (be : Option Addr) (n2 c2 : Nat), e = .returned (.tuple #[tv k o t a n c ae ne ce d' s', .slice be n2 c2, .bool (verdict mem d)]) ∧ Below w.heap.size w w' ∧
    (verdict mem d = true → d' = d ∧ s' = s ∧ ne = (oldE d).length ∧ T0.Row w' ae (oldE d) ∧ n2 = (nodeE mem d.ino).length ∧ T0.Row w' be (nodeE mem d.ino))

theorem ans_no {mem : ByteArray} {d : Ln} {s : Sl} {w w' : World} {k o t : Int} {a : Option Addr} {n c : Nat} {ae : Option Addr} {ne ce : Nat} {d' : Ln} {s' : Sl} {be : Option Addr} {n2 c2 : Nat} (h : verdict mem d = false) (hb : Below w.heap.size w w') : Ans mem d s w (.returned (.tuple #[tv k o t a n c ae ne ce d' s', .slice be n2 c2, .bool false])) w' :=
  ⟨k, o, t, a, n, c, ae, ne, ce, d', s', be, n2, c2, by rw [h], hb, fun h' => by rw [h] at h'; cases h'⟩
theorem ans_is {mem : ByteArray} {d : Ln} {s : Sl} {w w' : World} {k o t : Int} {a : Option Addr} {n c : Nat} {ae : Option Addr} {ce : Nat} {be : Option Addr} {c2 : Nat} {b : Bool} (h : verdict mem d = b) (hb : Below w.heap.size w w') (h1 : T0.Row w' ae (oldE d)) (h2 : T0.Row w' be (nodeE mem d.ino)) : Ans mem d s w (.returned (.tuple #[tv k o t a n c ae (oldE d).length ce d s, .slice be (nodeE mem d.ino).length c2, .bool b])) w' :=
  ⟨k, o, t, a, n, c, ae, _, ce, d, s, be, _, c2, by rw [h], hb, fun _ => ⟨rfl, rfl, rfl, h1, rfl, h2⟩⟩

/-- The blocks of lookBack. -/
structure LK (w : World) (d : Ln) (s : Sl) (ts ns : List Value) (Bt Bn : Nat) (W : World) : Prop where
  r : RL w d s W
  tb : K0.Blk Bt ts W
  nb : K0.Blk Bn ns W
  lt : w.heap.size + 2 ≤ Bt ∧ w.heap.size + 2 ≤ Bn
theorem LK.below {w W W' : World} {d : Ln} {s : Sl} {ts ns : List Value} {Bt Bn : Nat} (h : LK w d s ts ns Bt Bn W) (hb : Below W.heap.size W W') : LK w d s ts ns Bt Bn W' := ⟨h.r.below hb, h.tb.below hb, h.nb.below hb, h.lt⟩

theorem oldE_len (d : Ln) : (oldE d).length ≤ 13 := by
  unfold oldE
  split
  · unfold V0.dE
    split
    · rw [V0.ents_length]
      unfold V0.cnt
      omega
    · exact Nat.zero_le _
  · exact Nat.zero_le _
theorem nodeE_len (mem : ByteArray) (i : Int) : (nodeE mem i).length ≤ 13 := by
  unfold nodeE
  split
  · unfold V0.dE
    split
    · rw [V0.ents_length]
      unfold V0.cnt
      omega
    · exact Nat.zero_le _
  · exact Nat.zero_le _

set_option maxHeartbeats 8000000 in
theorem lookBack (mem : ByteArray) (d : Ln) (s : Sl) (w : World) (hms : mem.size ≤ 281474976710656) (hF : Fit d s) (hpo : d.po.length ≤ 1048576) (hfr : d.fr.length ≤ 1048576) (hR : Lists w d s) : Calls Tryz.prog 60 #[.string mem, N1.val d s] w (Ans mem d s w) := by
  have r0 := rl_new w d s
  have HL : Hid (∀ W, Below w.heap.size w W → Lists W d s) := fun W hb => hR.below hb
  have HRL : Hid (Calls Tryz.prog 52 #[N1.val d s] (N9.w00 w d s) fun e w' => ∃ (k o t : Int) (a : Option Addr) (n c : Nat) (ae : Option Addr) (ne ce : Nat) (d' : Ln) (s' : Sl), e = .returned (.tuple #[tv k o t a n c ae ne ce d' s', .bool (N0.loanOk d)]) ∧ Below (N9.w00 w d s).heap.size (N9.w00 w d s) w' ∧
    (N0.loanOk d = true → d' = d ∧ s' = s ∧ k = G0.gK d.rc ∧ o = G0.gO d.rc ∧ t = G0.gS d.rc ∧ n = (G0.gZ d.rc).length ∧ n ≤ c ∧ J0.Own (N9.w00 w d s).heap.size w' a (G0.gZ d.rc) ∧ ne = (oldE d).length ∧ ne ≤ ce ∧ V1.OwnE (N9.w00 w d s).heap.size w' ae (oldE d))) := N9.readLoan d s _ hF hpo hfr (hR.below r0.bel)
  have HN : Hid (∀ k o t a n c ae ne ce d' s' be n2 c2 w', verdict mem d = false → Below w.heap.size w w' → Ans mem d s w (.returned (.tuple #[tv k o t a n c ae ne ce d' s', .slice be n2 c2, .bool false])) w') := fun k o t a n c ae ne ce d' s' be n2 c2 w' h hb => ans_no h hb
  have HI : Hid (∀ k o t a n c ae ce be c2 b w', verdict mem d = b → Below w.heap.size w w' → T0.Row w' ae (oldE d) → T0.Row w' be (nodeE mem d.ino) → Ans mem d s w (.returned (.tuple #[tv k o t a n c ae (oldE d).length ce d s, .slice be (nodeE mem d.ino).length c2, .bool b])) w') := fun k o t a n c ae ce be c2 b w' h hb h1 h2 => ans_is h hb h1 h2
  have hcase := verdict_cases mem d
  obtain ⟨R, hRR⟩ : ∃ R, Ans mem d s w = R := ⟨_, rfl⟩
  rw [hRR] at HN HI ⊢
  clear hRR hR hF
  rcases hcase with ⟨g1, hv⟩ | ⟨g1, g2, hv⟩ | ⟨g1, g2, g3, hv⟩ | ⟨g1, g2, g3, g4, hv⟩ | ⟨g1, g2, g3, g4, g5, hv⟩ | ⟨g1, g2, g3, g4, g5, hv⟩
  · rw [g1] at HRL
    clear g1
    go_enter Tryz.func60, Tryz.ntmps60
    go_wp2_with (go_at_call 52; refine HRL.out.mono ?_; rintro e w1 ⟨k, o, t, a, n, c, ae, ne, ce, d', s', rfl, b1, -⟩; have r1 := r0.below b1; have r2 := r1.below (K0.below_new w1 (tObj k o t a n c ae ne ce d' s')); obtain ⟨i0, i1, i2, i3, i4, i5, i6, i7, i8, i9, i10, i11, i12⟩ := cells13 r2.res; obtain ⟨j0, j1, j2, j3, j4, j5, j6, j7, j8, j9, j10, j11, j12⟩ := free13 r2.res)
    obtain ⟨u0, u1, u2, u3, u4, u5, u6, u7, u8, u9, u10, u11, u12⟩ := cells13 (put13 r2.res (.int .i64 0) (.int .i64 0) (.int .i64 0) (.slice none 0 0) (.slice none 0 0) (.int .i64 0) (.int .i64 0) (.int .i64 0) (.string ⟨#[]⟩) (.slice none 0 0) (.string ⟨#[]⟩) (.slice none 0 0) (.slice none 0 0))
    refine bodyPost_ret (v := .tuple #[tv 0 0 0 none 0 0 none 0 0 ln0 sl0, .slice none 0 0, .bool false]) (by simp [results, Tryz.results60, go_sem, ln0, sl0, u0, u1, u2, u3, u4, u5, u6, u7, u8, u9, u10, u11, u12]) rfl ?_
    exact HN.out _ _ _ _ _ _ _ _ _ _ _ _ _ _ _ (hv) (bel13 r2.bel (by omega) _ _ _ _ _ _ _ _ _ _ _ _ _)
  · rw [g1] at HRL
    clear g1
    go_enter Tryz.func60, Tryz.ntmps60
    go_wp2_with (go_at_call 52; refine HRL.out.mono ?_; rintro e w1 ⟨k, o, t, a, n, c, ae, ne, ce, d', s', rfl, b1, -⟩; have r1 := r0.below b1; have r2 := r1.below (K0.below_new w1 (tObj k o t a n c ae ne ce d' s')); obtain ⟨i0, i1, i2, i3, i4, i5, i6, i7, i8, i9, i10, i11, i12⟩ := cells13 r2.res; obtain ⟨j0, j1, j2, j3, j4, j5, j6, j7, j8, j9, j10, j11, j12⟩ := free13 r2.res)
    obtain ⟨u0, u1, u2, u3, u4, u5, u6, u7, u8, u9, u10, u11, u12⟩ := cells13 (put13 r2.res (.int .i64 0) (.int .i64 0) (.int .i64 0) (.slice none 0 0) (.slice none 0 0) (.int .i64 0) (.int .i64 0) (.int .i64 0) (.string ⟨#[]⟩) (.slice none 0 0) (.string ⟨#[]⟩) (.slice none 0 0) (.slice none 0 0))
    refine bodyPost_ret (v := .tuple #[tv 0 0 0 none 0 0 none 0 0 ln0 sl0, .slice none 0 0, .bool false]) (by simp [results, Tryz.results60, go_sem, ln0, sl0, u0, u1, u2, u3, u4, u5, u6, u7, u8, u9, u10, u11, u12]) rfl ?_
    exact HN.out _ _ _ _ _ _ _ _ _ _ _ _ _ _ _ (hv) (bel13 r2.bel (by omega) _ _ _ _ _ _ _ _ _ _ _ _ _)
  · rw [g1] at HRL
    have g8 : ((mem.size : Int) != 768) = false := by simp; omega
    have HNd : Hid (∀ W, Calls Tryz.prog 92 #[.string mem, .int .i64 d.ino] W fun e w' => ∃ (k o t : Int) (a : Option Addr) (n c : Nat) (x : ByteArray) (ae : Option Addr) (ne ce : Nat), e = .returned (.tuple #[nv k o t a n c x ae ne ce, .bool (nodeOk mem d.ino)]) ∧ Below W.heap.size W w' ∧
    (nodeOk mem d.ino = true → k = G0.gK (O0.recd mem d.ino) ∧ o = G0.gO (O0.recd mem d.ino) ∧ n = (G0.gZ (O0.recd mem d.ino)).length ∧ n ≤ c ∧ J0.Own W.heap.size w' a (G0.gZ (O0.recd mem d.ino)) ∧ ne = (nodeE mem d.ino).length ∧ ne ≤ ce ∧ V1.OwnE W.heap.size w' ae (nodeE mem d.ino))) := fun W => D1.readNode mem d.ino W g2
    rw [g3] at HNd
    clear g1 g3
    go_enter Tryz.func60, Tryz.ntmps60
    go_wp2_with (first
      | (go_at_call 52; refine HRL.out.mono ?_; rintro e w1 ⟨k, o, t, a, n, c, ae, ne, ce, d', s', rfl, b1, hy1⟩; obtain ⟨ed, es, hh⟩ := hy1 rfl; subst d'; subst s'; have HH1 : Hid _ := hh; clear hh hy1; have r1 := r0.below b1; have n2 := K0.below_new w1 (tObj k o t a n c ae ne ce d s); have r2 := r1.below n2; have tb2 := K0.blk_new (tvs k o t a n c ae ne ce d s) w1 75; have hw1 : w.heap.size + 2 ≤ w1.heap.size := (by have := b1.size; simp at this; omega); have c0 := r2.arg.c0)
      | (go_at_call 92; refine (HNd.out _).mono ?_; rintro e w3 ⟨k2, o2, t2, a2, n2', c2, x2, ae2, ne2, ce2, rfl, b3, hy3⟩; have HH3 : Hid _ := hy3; clear hy3; have n3 := K0.below_new w3 (.cells #[.int .i64 k2, .int .i64 o2, .int .i64 t2, .slice a2 n2' c2, .string x2, .slice ae2 ne2 ce2] 121); have lk : LK w d s (tvs k o t a n c ae ne ce d s) (nvs k2 o2 t2 a2 n2' c2 x2 ae2 ne2 ce2) w1.heap.size w3.heap.size (w3.alloc (.cells #[.int .i64 k2, .int .i64 o2, .int .i64 t2, .slice a2 n2' c2, .string x2, .slice ae2 ne2 ce2] 121)) := ⟨(r2.below b3).below n3, (tb2.below b3).below n3, K0.blk_new (nvs k2 o2 t2 a2 n2' c2 x2 ae2 ne2 ce2) w3 121, hw1, (by have h1 := b3.size; simp at h1; omega)⟩))
    obtain ⟨Bt, hBt⟩ : ∃ B, w1.heap.size = B := ⟨_, rfl⟩
    obtain ⟨Bn, hBn⟩ : ∃ B, w3.heap.size = B := ⟨_, rfl⟩
    obtain ⟨W4, hW4⟩ : ∃ W4, w3.alloc (.cells #[.int .i64 k2, .int .i64 o2, .int .i64 t2, .slice a2 n2' c2, .string x2, .slice ae2 ne2 ce2] 121) = W4 := ⟨_, rfl⟩
    rw [hBt, hBn, hW4] at lk
    simp only [hBt, hBn, hW4]
    have l4 := lk.below (W' := W4.drew) ((Below.refl _ _).drew)
    clear HH1 HH3
    try clear hk ho ht hn hne hk2 ho2 hn2 hne2
    refine wp_region_held (S := fun W => True) (by kernel_rfl) ?_
    refine wpAnyH_take (i := 0) (v := .bool false) rfl (by kernel_rfl) (by kernel_rfl) (by kernel_rfl) (fun _ _ _ h => h) (Or.inl ⟨by rfl, fun w' hS' => by rfl⟩) trivial ?_
    simp only [List.getElem_toArray, List.getElem_cons_succ, List.getElem_cons_zero, Act.put, List.setIfInBounds_toArray, List.set_cons_succ, List.set_cons_zero, Nat.reduceAdd]
    refine wpAnyH_take (i := 1) (v := .bool true) rfl (by kernel_rfl) (by kernel_rfl) (by kernel_rfl) (fun _ _ _ h => h) (Or.inl ⟨by rfl, fun w' hS' => by rfl⟩) trivial ?_
    simp only [List.getElem_toArray, List.getElem_cons_succ, List.getElem_cons_zero, Act.put, List.setIfInBounds_toArray, List.set_cons_succ, List.set_cons_zero, Nat.reduceAdd]
    refine wpAnyH_take (i := 2) (v := .bool true) rfl (by kernel_rfl) (by kernel_rfl) (by kernel_rfl) (fun _ _ _ h => h) (Or.inl ⟨by rfl, fun w' hS' => by rfl⟩) trivial ?_
    simp only [List.getElem_toArray, List.getElem_cons_succ, List.getElem_cons_zero, Act.put, List.setIfInBounds_toArray, List.set_cons_succ, List.set_cons_zero, Nat.reduceAdd]
    refine wpAnyH_take (i := 3) (v := undef) rfl (by kernel_rfl) (by kernel_rfl) (by kernel_rfl) (fun _ _ _ h => h) (Or.inr ⟨by rfl, rfl⟩) trivial ?_
    simp only [List.getElem_toArray, List.getElem_cons_succ, List.getElem_cons_zero, Act.put, List.setIfInBounds_toArray, List.set_cons_succ, List.set_cons_zero, Nat.reduceAdd]
    refine wpAnyH_take (i := 4) (v := undef) rfl (by kernel_rfl) (by kernel_rfl) (by kernel_rfl) (fun _ _ _ h => h) (Or.inr ⟨by rfl, rfl⟩) trivial ?_
    simp only [List.getElem_toArray, List.getElem_cons_succ, List.getElem_cons_zero, Act.put, List.setIfInBounds_toArray, List.set_cons_succ, List.set_cons_zero, Nat.reduceAdd]
    refine wpAnyH_take (i := 5) (v := undef) rfl (by kernel_rfl) (by kernel_rfl) (by kernel_rfl) (fun _ _ _ h => h) (Or.inr ⟨by rfl, rfl⟩) trivial ?_
    simp only [List.getElem_toArray, List.getElem_cons_succ, List.getElem_cons_zero, Act.put, List.setIfInBounds_toArray, List.set_cons_succ, List.set_cons_zero, Nat.reduceAdd]
    refine wpAnyH_take (i := 6) (v := undef) rfl (by kernel_rfl) (by kernel_rfl) (by kernel_rfl) (fun _ _ _ h => h) (Or.inr ⟨by rfl, rfl⟩) trivial ?_
    simp only [List.getElem_toArray, List.getElem_cons_succ, List.getElem_cons_zero, Act.put, List.setIfInBounds_toArray, List.set_cons_succ, List.set_cons_zero, Nat.reduceAdd]
    refine wpAnyH_take (i := 7) (v := undef) rfl (by kernel_rfl) (by kernel_rfl) (by kernel_rfl) (fun _ _ _ h => h) (Or.inr ⟨by rfl, rfl⟩) trivial ?_
    simp only [List.getElem_toArray, List.getElem_cons_succ, List.getElem_cons_zero, Act.put, List.setIfInBounds_toArray, List.set_cons_succ, List.set_cons_zero, Nat.reduceAdd]
    refine wpAnyH_take (i := 8) (v := undef) rfl (by kernel_rfl) (by kernel_rfl) (by kernel_rfl) (fun _ _ _ h => h) (Or.inr ⟨by rfl, rfl⟩) trivial ?_
    simp only [List.getElem_toArray, List.getElem_cons_succ, List.getElem_cons_zero, Act.put, List.setIfInBounds_toArray, List.set_cons_succ, List.set_cons_zero, Nat.reduceAdd]
    refine wpAnyH_take (i := 9) (v := .bool true) rfl (by kernel_rfl) (by kernel_rfl) (by kernel_rfl) (fun _ _ _ h => h) (Or.inl ⟨by rfl, fun w' hS' => by rfl⟩) trivial ?_
    simp only [List.getElem_toArray, List.getElem_cons_succ, List.getElem_cons_zero, Act.put, List.setIfInBounds_toArray, List.set_cons_succ, List.set_cons_zero, Nat.reduceAdd]
    refine wpAnyH_take (i := 10) (v := .bool true) rfl (by kernel_rfl) (by kernel_rfl) (by kernel_rfl) (fun _ _ _ h => h) (Or.inl ⟨by rfl, fun w' hS' => by rfl⟩) trivial ?_
    simp only [List.getElem_toArray, List.getElem_cons_succ, List.getElem_cons_zero, Act.put, List.setIfInBounds_toArray, List.set_cons_succ, List.set_cons_zero, Nat.reduceAdd]
    refine wpAnyH_take (i := 11) (v := undef) rfl (by kernel_rfl) (by kernel_rfl) (by kernel_rfl) (fun _ _ _ h => h) (Or.inr ⟨by rfl, rfl⟩) trivial ?_
    simp only [List.getElem_toArray, List.getElem_cons_succ, List.getElem_cons_zero, Act.put, List.setIfInBounds_toArray, List.set_cons_succ, List.set_cons_zero, Nat.reduceAdd]
    refine wpAnyH_take (i := 12) (v := undef) rfl (by kernel_rfl) (by kernel_rfl) (by kernel_rfl) (fun _ _ _ h => h) (Or.inr ⟨by rfl, rfl⟩) trivial ?_
    simp only [List.getElem_toArray, List.getElem_cons_succ, List.getElem_cons_zero, Act.put, List.setIfInBounds_toArray, List.set_cons_succ, List.set_cons_zero, Nat.reduceAdd]
    refine wpAnyH_take (i := 13) (v := undef) rfl (by kernel_rfl) (by kernel_rfl) (by kernel_rfl) (fun _ _ _ h => h) (Or.inr ⟨by rfl, rfl⟩) trivial ?_
    simp only [List.getElem_toArray, List.getElem_cons_succ, List.getElem_cons_zero, Act.put, List.setIfInBounds_toArray, List.set_cons_succ, List.set_cons_zero, Nat.reduceAdd]
    refine wpAnyH_take (i := 14) (v := undef) rfl (by kernel_rfl) (by kernel_rfl) (by kernel_rfl) (fun _ _ _ h => h) (Or.inr ⟨by rfl, rfl⟩) trivial ?_
    simp only [List.getElem_toArray, List.getElem_cons_succ, List.getElem_cons_zero, Act.put, List.setIfInBounds_toArray, List.set_cons_succ, List.set_cons_zero, Nat.reduceAdd]
    refine wpAnyH_take (i := 15) (v := undef) rfl (by kernel_rfl) (by kernel_rfl) (by kernel_rfl) (fun _ _ _ h => h) (Or.inr ⟨by rfl, rfl⟩) trivial ?_
    simp only [List.getElem_toArray, List.getElem_cons_succ, List.getElem_cons_zero, Act.put, List.setIfInBounds_toArray, List.set_cons_succ, List.set_cons_zero, Nat.reduceAdd]
    refine wpAnyH_take (i := 16) (v := undef) rfl (by kernel_rfl) (by kernel_rfl) (by kernel_rfl) (fun _ _ _ h => h) (Or.inr ⟨by rfl, rfl⟩) trivial ?_
    simp only [List.getElem_toArray, List.getElem_cons_succ, List.getElem_cons_zero, Act.put, List.setIfInBounds_toArray, List.set_cons_succ, List.set_cons_zero, Nat.reduceAdd]
    refine wpAnyH_take (i := 17) (v := undef) rfl (by kernel_rfl) (by kernel_rfl) (by kernel_rfl) (fun _ _ _ h => h) (Or.inr ⟨by rfl, rfl⟩) trivial ?_
    simp only [List.getElem_toArray, List.getElem_cons_succ, List.getElem_cons_zero, Act.put, List.setIfInBounds_toArray, List.set_cons_succ, List.set_cons_zero, Nat.reduceAdd]
    refine wpAnyH_take (i := 18) (v := undef) rfl (by kernel_rfl) (by kernel_rfl) (by kernel_rfl) (fun _ _ _ h => h) (Or.inr ⟨by rfl, rfl⟩) trivial ?_
    simp only [List.getElem_toArray, List.getElem_cons_succ, List.getElem_cons_zero, Act.put, List.setIfInBounds_toArray, List.set_cons_succ, List.set_cons_zero, Nat.reduceAdd]
    refine wpAnyH_take (i := 19) (v := undef) rfl (by kernel_rfl) (by kernel_rfl) (by kernel_rfl) (fun _ _ _ h => h) (Or.inr ⟨by rfl, rfl⟩) trivial ?_
    simp only [List.getElem_toArray, List.getElem_cons_succ, List.getElem_cons_zero, Act.put, List.setIfInBounds_toArray, List.set_cons_succ, List.set_cons_zero, Nat.reduceAdd]
    refine wpAnyH_take (i := 20) (v := undef) rfl (by kernel_rfl) (by kernel_rfl) (by kernel_rfl) (fun _ _ _ h => h) (Or.inr ⟨by rfl, rfl⟩) trivial ?_
    simp only [List.getElem_toArray, List.getElem_cons_succ, List.getElem_cons_zero, Act.put, List.setIfInBounds_toArray, List.set_cons_succ, List.set_cons_zero, Nat.reduceAdd]
    refine wpAnyH_take (i := 21) (v := undef) rfl (by kernel_rfl) (by kernel_rfl) (by kernel_rfl) (fun _ _ _ h => h) (Or.inr ⟨by rfl, rfl⟩) trivial ?_
    simp only [List.getElem_toArray, List.getElem_cons_succ, List.getElem_cons_zero, Act.put, List.setIfInBounds_toArray, List.set_cons_succ, List.set_cons_zero, Nat.reduceAdd]
    refine wpAnyH_take (i := 22) (v := .bool true) rfl (by kernel_rfl) (by kernel_rfl) (by kernel_rfl) (fun _ _ _ h => h) (Or.inl ⟨by rfl, fun w' hS' => by rfl⟩) trivial ?_
    simp only [List.getElem_toArray, List.getElem_cons_succ, List.getElem_cons_zero, Act.put, List.setIfInBounds_toArray, List.set_cons_succ, List.set_cons_zero, Nat.reduceAdd]
    refine wpAnyH_done (by kernel_rfl) ?_ _
    obtain ⟨i0, i1, i2, i3, i4, i5, i6, i7, i8, i9, i10, i11, i12⟩ := cells13 lk.r.res
    obtain ⟨j0, j1, j2, j3, j4, j5, j6, j7, j8, j9, j10, j11, j12⟩ := free13 lk.r.res
    go_wp2
    obtain ⟨u0, u1, u2, u3, u4, u5, u6, u7, u8, u9, u10, u11, u12⟩ := cells13 (put13 lk.r.res (.int .i64 0) (.int .i64 0) (.int .i64 0) (.slice none 0 0) (.slice none 0 0) (.int .i64 0) (.int .i64 0) (.int .i64 0) (.string ⟨#[]⟩) (.slice none 0 0) (.string ⟨#[]⟩) (.slice none 0 0) (.slice none 0 0))
    refine bodyPost_ret (v := .tuple #[tv 0 0 0 none 0 0 none 0 0 ln0 sl0, .slice none 0 0, .bool false]) (by simp [results, Tryz.results60, go_sem, ln0, sl0, u0, u1, u2, u3, u4, u5, u6, u7, u8, u9, u10, u11, u12]) rfl ?_
    exact HN.out _ _ _ _ _ _ _ _ _ _ _ _ _ _ _ (hv) (bel13 lk.r.bel (by omega) _ _ _ _ _ _ _ _ _ _ _ _ _).drew
  · rw [g1] at HRL
    have g8 : ((mem.size : Int) != 768) = false := by simp; omega
    have HNd : Hid (∀ W, Calls Tryz.prog 92 #[.string mem, .int .i64 d.ino] W fun e w' => ∃ (k o t : Int) (a : Option Addr) (n c : Nat) (x : ByteArray) (ae : Option Addr) (ne ce : Nat), e = .returned (.tuple #[nv k o t a n c x ae ne ce, .bool (nodeOk mem d.ino)]) ∧ Below W.heap.size W w' ∧
    (nodeOk mem d.ino = true → k = G0.gK (O0.recd mem d.ino) ∧ o = G0.gO (O0.recd mem d.ino) ∧ n = (G0.gZ (O0.recd mem d.ino)).length ∧ n ≤ c ∧ J0.Own W.heap.size w' a (G0.gZ (O0.recd mem d.ino)) ∧ ne = (nodeE mem d.ino).length ∧ ne ≤ ce ∧ V1.OwnE W.heap.size w' ae (nodeE mem d.ino))) := fun W => D1.readNode mem d.ino W g2
    rw [g3] at HNd
    clear g1 g3
    go_enter Tryz.func60, Tryz.ntmps60
    go_wp2_with (first
      | (go_at_call 52; refine HRL.out.mono ?_; rintro e w1 ⟨k, o, t, a, n, c, ae, ne, ce, d', s', rfl, b1, hy1⟩; obtain ⟨ed, es, hh⟩ := hy1 rfl; subst d'; subst s'; have HH1 : Hid _ := hh; clear hh hy1; have r1 := r0.below b1; have n2 := K0.below_new w1 (tObj k o t a n c ae ne ce d s); have r2 := r1.below n2; have tb2 := K0.blk_new (tvs k o t a n c ae ne ce d s) w1 75; have hw1 : w.heap.size + 2 ≤ w1.heap.size := (by have := b1.size; simp at this; omega); have c0 := r2.arg.c0)
      | (go_at_call 92; refine (HNd.out _).mono ?_; rintro e w3 ⟨k2, o2, t2, a2, n2', c2, x2, ae2, ne2, ce2, rfl, b3, hy3⟩; have HH3 : Hid _ := hy3; clear hy3; have n3 := K0.below_new w3 (.cells #[.int .i64 k2, .int .i64 o2, .int .i64 t2, .slice a2 n2' c2, .string x2, .slice ae2 ne2 ce2] 121); have lk : LK w d s (tvs k o t a n c ae ne ce d s) (nvs k2 o2 t2 a2 n2' c2 x2 ae2 ne2 ce2) w1.heap.size w3.heap.size (w3.alloc (.cells #[.int .i64 k2, .int .i64 o2, .int .i64 t2, .slice a2 n2' c2, .string x2, .slice ae2 ne2 ce2] 121)) := ⟨(r2.below b3).below n3, (tb2.below b3).below n3, K0.blk_new (nvs k2 o2 t2 a2 n2' c2 x2 ae2 ne2 ce2) w3 121, hw1, (by have h1 := b3.size; simp at h1; omega)⟩))
    obtain ⟨Bt, hBt⟩ : ∃ B, w1.heap.size = B := ⟨_, rfl⟩
    obtain ⟨Bn, hBn⟩ : ∃ B, w3.heap.size = B := ⟨_, rfl⟩
    obtain ⟨hk, ho, ht, hn, hnc, hown, hne, hnce, hownE⟩ := HH1.out
    obtain ⟨hk2, ho2, hn2, hnc2, hown2, hne2, hnce2, hownE2⟩ := HH3.out (by trivial)
    have HLi : Hid (∀ W, Calls Tryz.prog 93 #[N5.pv k o t a n c ae ne ce, I0.val k2 o2 t2 a2 n2' c2] W fun e w' => e = .returned (.bool (like mem d)) ∧ Below W.heap.size W w') := fun W => (D0.isLike k o t a n c ae ne ce k2 o2 t2 a2 n2' c2 W).mono fun _ _ ⟨he, hb⟩ => ⟨by rw [he, hk2, ho2, hk, ho]; rfl, hb⟩
    rw [g4] at HLi
    obtain ⟨W4, hW4⟩ : ∃ W4, w3.alloc (.cells #[.int .i64 k2, .int .i64 o2, .int .i64 t2, .slice a2 n2' c2, .string x2, .slice ae2 ne2 ce2] 121) = W4 := ⟨_, rfl⟩
    rw [hBt, hBn, hW4] at lk
    simp only [hBt, hBn, hW4]
    have l4 := lk.below (W' := W4.drew) ((Below.refl _ _).drew)
    clear HH1 HH3
    try clear hk ho ht hn hne hk2 ho2 hn2 hne2
    obtain ⟨v0, v1, v2, v3, v4⟩ := D3.cells5 l4.tb
    obtain ⟨z0, z1, z2, z3, -, -⟩ := cells6 l4.nb
    have s4 : (fun W : World => W.cell? ⟨Bt, 0, none⟩ = some (.int .i64 k) ∧ W.cell? ⟨Bt, 1, none⟩ = some (.int .i64 o) ∧ W.cell? ⟨Bt, 2, none⟩ = some (.int .i64 t) ∧ W.cell? ⟨Bt, 3, none⟩ = some (.slice a n c) ∧ W.cell? ⟨Bt, 4, none⟩ = some (.slice ae ne ce) ∧ W.cell? ⟨Bn, 0, none⟩ = some (.int .i64 k2) ∧ W.cell? ⟨Bn, 1, none⟩ = some (.int .i64 o2) ∧ W.cell? ⟨Bn, 2, none⟩ = some (.int .i64 t2) ∧ W.cell? ⟨Bn, 3, none⟩ = some (.slice a2 n2' c2)) W4.drew := ⟨v0, v1, v2, v3, v4, z0, z1, z2, z3⟩
    refine wp_region_held (S := fun W => W.cell? ⟨Bt, 0, none⟩ = some (.int .i64 k) ∧ W.cell? ⟨Bt, 1, none⟩ = some (.int .i64 o) ∧ W.cell? ⟨Bt, 2, none⟩ = some (.int .i64 t) ∧ W.cell? ⟨Bt, 3, none⟩ = some (.slice a n c) ∧ W.cell? ⟨Bt, 4, none⟩ = some (.slice ae ne ce) ∧ W.cell? ⟨Bn, 0, none⟩ = some (.int .i64 k2) ∧ W.cell? ⟨Bn, 1, none⟩ = some (.int .i64 o2) ∧ W.cell? ⟨Bn, 2, none⟩ = some (.int .i64 t2) ∧ W.cell? ⟨Bn, 3, none⟩ = some (.slice a2 n2' c2)) (by kernel_rfl) ?_
    refine wpAnyH_take (i := 0) (v := .bool true) rfl (by kernel_rfl) (by kernel_rfl) (by kernel_rfl) (fun _ _ _ h => h) (Or.inl ⟨by rfl, fun w' hS' => by rfl⟩) s4 ?_
    simp only [List.getElem_toArray, List.getElem_cons_succ, List.getElem_cons_zero, Act.put, List.setIfInBounds_toArray, List.set_cons_succ, List.set_cons_zero, Nat.reduceAdd]
    refine wpAnyH_take (i := 1) (v := .bool false) rfl (by kernel_rfl) (by kernel_rfl) (by kernel_rfl) (fun _ _ _ h => h) (Or.inl ⟨by rfl, fun w' hS' => by rfl⟩) s4 ?_
    simp only [List.getElem_toArray, List.getElem_cons_succ, List.getElem_cons_zero, Act.put, List.setIfInBounds_toArray, List.set_cons_succ, List.set_cons_zero, Nat.reduceAdd]
    refine wpAnyH_take (i := 2) (v := .bool false) rfl (by kernel_rfl) (by kernel_rfl) (by kernel_rfl) (fun _ _ _ h => h) (Or.inl ⟨by rfl, fun w' hS' => by rfl⟩) s4 ?_
    simp only [List.getElem_toArray, List.getElem_cons_succ, List.getElem_cons_zero, Act.put, List.setIfInBounds_toArray, List.set_cons_succ, List.set_cons_zero, Nat.reduceAdd]
    refine wpAnyH_take (i := 3) (v := .pointer (some ⟨Bt, 0, none⟩)) rfl (by kernel_rfl) (by kernel_rfl) (by kernel_rfl) (fun _ _ _ h => h) (Or.inl ⟨by rfl, fun w' hS' => ?_⟩) s4 ?_
    · obtain ⟨q0, q1, q2, q3, q4, p0, p1, p2, p3⟩ := hS'
      go_simp
    simp only [List.getElem_toArray, List.getElem_cons_succ, List.getElem_cons_zero, Act.put, List.setIfInBounds_toArray, List.set_cons_succ, List.set_cons_zero, Nat.reduceAdd]
    refine wpAnyH_take (i := 4) (v := N5.pv k o t a n c ae ne ce) rfl (by kernel_rfl) (by kernel_rfl) (by kernel_rfl) (fun _ _ _ h => h) (Or.inl ⟨by rfl, fun w' hS' => ?_⟩) s4 ?_
    · obtain ⟨q0, q1, q2, q3, q4, p0, p1, p2, p3⟩ := hS'
      go_simp
    simp only [List.getElem_toArray, List.getElem_cons_succ, List.getElem_cons_zero, Act.put, List.setIfInBounds_toArray, List.set_cons_succ, List.set_cons_zero, Nat.reduceAdd]
    refine wpAnyH_take (i := 5) (v := .pointer (some ⟨Bn, 0, none⟩)) rfl (by kernel_rfl) (by kernel_rfl) (by kernel_rfl) (fun _ _ _ h => h) (Or.inl ⟨by rfl, fun w' hS' => ?_⟩) s4 ?_
    · obtain ⟨q0, q1, q2, q3, q4, p0, p1, p2, p3⟩ := hS'
      go_simp
    simp only [List.getElem_toArray, List.getElem_cons_succ, List.getElem_cons_zero, Act.put, List.setIfInBounds_toArray, List.set_cons_succ, List.set_cons_zero, Nat.reduceAdd]
    refine wpAnyH_take (i := 6) (v := I0.val k2 o2 t2 a2 n2' c2) rfl (by kernel_rfl) (by kernel_rfl) (by kernel_rfl) (fun _ _ _ h => h) (Or.inl ⟨by rfl, fun w' hS' => ?_⟩) s4 ?_
    · obtain ⟨q0, q1, q2, q3, q4, p0, p1, p2, p3⟩ := hS'
      go_simp
    simp only [List.getElem_toArray, List.getElem_cons_succ, List.getElem_cons_zero, Act.put, List.setIfInBounds_toArray, List.set_cons_succ, List.set_cons_zero, Nat.reduceAdd]
    refine Y0.one_call2w (i := 7) (by kernel_rfl) rfl (by rfl) (.tmp 34) (.tmp 36) _ rfl (N5.pv k o t a n c ae ne ce) (I0.val k2 o2 t2 a2 n2' c2) (by rfl) (by rfl) (enters_of Tryz.func93 (by kernel_rfl) rfl) ((HLi.out _).mono ?_)
    rintro e w5 ⟨rfl, b5⟩
    have l5 := l4.below b5
    obtain ⟨v0, v1, v2, v3, v4⟩ := D3.cells5 l5.tb
    obtain ⟨z0, z1, z2, z3, -, -⟩ := cells6 l5.nb
    have s5 : (fun W : World => W.cell? ⟨Bt, 0, none⟩ = some (.int .i64 k) ∧ W.cell? ⟨Bt, 1, none⟩ = some (.int .i64 o) ∧ W.cell? ⟨Bt, 2, none⟩ = some (.int .i64 t) ∧ W.cell? ⟨Bt, 3, none⟩ = some (.slice a n c) ∧ W.cell? ⟨Bt, 4, none⟩ = some (.slice ae ne ce) ∧ W.cell? ⟨Bn, 0, none⟩ = some (.int .i64 k2) ∧ W.cell? ⟨Bn, 1, none⟩ = some (.int .i64 o2) ∧ W.cell? ⟨Bn, 2, none⟩ = some (.int .i64 t2) ∧ W.cell? ⟨Bn, 3, none⟩ = some (.slice a2 n2' c2)) w5 := ⟨v0, v1, v2, v3, v4, z0, z1, z2, z3⟩
    refine ⟨_, rfl, s5, ?_⟩
    simp only [List.getElem_toArray, List.getElem_cons_succ, List.getElem_cons_zero, Act.put, List.setIfInBounds_toArray, List.set_cons_succ, List.set_cons_zero, Nat.reduceAdd]
    refine wpAnyH_take (i := 8) (v := .bool true) rfl (by kernel_rfl) (by kernel_rfl) (by kernel_rfl) (fun _ _ _ h => h) (Or.inl ⟨by rfl, fun w' hS' => by rfl⟩) s5 ?_
    simp only [List.getElem_toArray, List.getElem_cons_succ, List.getElem_cons_zero, Act.put, List.setIfInBounds_toArray, List.set_cons_succ, List.set_cons_zero, Nat.reduceAdd]
    refine wpAnyH_take (i := 9) (v := .bool true) rfl (by kernel_rfl) (by kernel_rfl) (by kernel_rfl) (fun _ _ _ h => h) (Or.inl ⟨by rfl, fun w' hS' => by rfl⟩) s5 ?_
    simp only [List.getElem_toArray, List.getElem_cons_succ, List.getElem_cons_zero, Act.put, List.setIfInBounds_toArray, List.set_cons_succ, List.set_cons_zero, Nat.reduceAdd]
    refine wpAnyH_take (i := 10) (v := .bool true) rfl (by kernel_rfl) (by kernel_rfl) (by kernel_rfl) (fun _ _ _ h => h) (Or.inl ⟨by rfl, fun w' hS' => by rfl⟩) s5 ?_
    simp only [List.getElem_toArray, List.getElem_cons_succ, List.getElem_cons_zero, Act.put, List.setIfInBounds_toArray, List.set_cons_succ, List.set_cons_zero, Nat.reduceAdd]
    refine wpAnyH_take (i := 11) (v := undef) rfl (by kernel_rfl) (by kernel_rfl) (by kernel_rfl) (fun _ _ _ h => h) (Or.inr ⟨by rfl, rfl⟩) s5 ?_
    simp only [List.getElem_toArray, List.getElem_cons_succ, List.getElem_cons_zero, Act.put, List.setIfInBounds_toArray, List.set_cons_succ, List.set_cons_zero, Nat.reduceAdd]
    refine wpAnyH_take (i := 12) (v := undef) rfl (by kernel_rfl) (by kernel_rfl) (by kernel_rfl) (fun _ _ _ h => h) (Or.inr ⟨by rfl, rfl⟩) s5 ?_
    simp only [List.getElem_toArray, List.getElem_cons_succ, List.getElem_cons_zero, Act.put, List.setIfInBounds_toArray, List.set_cons_succ, List.set_cons_zero, Nat.reduceAdd]
    refine wpAnyH_take (i := 13) (v := undef) rfl (by kernel_rfl) (by kernel_rfl) (by kernel_rfl) (fun _ _ _ h => h) (Or.inr ⟨by rfl, rfl⟩) s5 ?_
    simp only [List.getElem_toArray, List.getElem_cons_succ, List.getElem_cons_zero, Act.put, List.setIfInBounds_toArray, List.set_cons_succ, List.set_cons_zero, Nat.reduceAdd]
    refine wpAnyH_take (i := 14) (v := undef) rfl (by kernel_rfl) (by kernel_rfl) (by kernel_rfl) (fun _ _ _ h => h) (Or.inr ⟨by rfl, rfl⟩) s5 ?_
    simp only [List.getElem_toArray, List.getElem_cons_succ, List.getElem_cons_zero, Act.put, List.setIfInBounds_toArray, List.set_cons_succ, List.set_cons_zero, Nat.reduceAdd]
    refine wpAnyH_take (i := 15) (v := undef) rfl (by kernel_rfl) (by kernel_rfl) (by kernel_rfl) (fun _ _ _ h => h) (Or.inr ⟨by rfl, rfl⟩) s5 ?_
    simp only [List.getElem_toArray, List.getElem_cons_succ, List.getElem_cons_zero, Act.put, List.setIfInBounds_toArray, List.set_cons_succ, List.set_cons_zero, Nat.reduceAdd]
    refine wpAnyH_take (i := 16) (v := undef) rfl (by kernel_rfl) (by kernel_rfl) (by kernel_rfl) (fun _ _ _ h => h) (Or.inr ⟨by rfl, rfl⟩) s5 ?_
    simp only [List.getElem_toArray, List.getElem_cons_succ, List.getElem_cons_zero, Act.put, List.setIfInBounds_toArray, List.set_cons_succ, List.set_cons_zero, Nat.reduceAdd]
    refine wpAnyH_take (i := 17) (v := undef) rfl (by kernel_rfl) (by kernel_rfl) (by kernel_rfl) (fun _ _ _ h => h) (Or.inr ⟨by rfl, rfl⟩) s5 ?_
    simp only [List.getElem_toArray, List.getElem_cons_succ, List.getElem_cons_zero, Act.put, List.setIfInBounds_toArray, List.set_cons_succ, List.set_cons_zero, Nat.reduceAdd]
    refine wpAnyH_take (i := 18) (v := undef) rfl (by kernel_rfl) (by kernel_rfl) (by kernel_rfl) (fun _ _ _ h => h) (Or.inr ⟨by rfl, rfl⟩) s5 ?_
    simp only [List.getElem_toArray, List.getElem_cons_succ, List.getElem_cons_zero, Act.put, List.setIfInBounds_toArray, List.set_cons_succ, List.set_cons_zero, Nat.reduceAdd]
    refine wpAnyH_take (i := 19) (v := undef) rfl (by kernel_rfl) (by kernel_rfl) (by kernel_rfl) (fun _ _ _ h => h) (Or.inr ⟨by rfl, rfl⟩) s5 ?_
    simp only [List.getElem_toArray, List.getElem_cons_succ, List.getElem_cons_zero, Act.put, List.setIfInBounds_toArray, List.set_cons_succ, List.set_cons_zero, Nat.reduceAdd]
    refine wpAnyH_take (i := 20) (v := undef) rfl (by kernel_rfl) (by kernel_rfl) (by kernel_rfl) (fun _ _ _ h => h) (Or.inr ⟨by rfl, rfl⟩) s5 ?_
    simp only [List.getElem_toArray, List.getElem_cons_succ, List.getElem_cons_zero, Act.put, List.setIfInBounds_toArray, List.set_cons_succ, List.set_cons_zero, Nat.reduceAdd]
    refine wpAnyH_take (i := 21) (v := undef) rfl (by kernel_rfl) (by kernel_rfl) (by kernel_rfl) (fun _ _ _ h => h) (Or.inr ⟨by rfl, rfl⟩) s5 ?_
    simp only [List.getElem_toArray, List.getElem_cons_succ, List.getElem_cons_zero, Act.put, List.setIfInBounds_toArray, List.set_cons_succ, List.set_cons_zero, Nat.reduceAdd]
    refine wpAnyH_take (i := 22) (v := .bool true) rfl (by kernel_rfl) (by kernel_rfl) (by kernel_rfl) (fun _ _ _ h => h) (Or.inl ⟨by rfl, fun w' hS' => by rfl⟩) s5 ?_
    simp only [List.getElem_toArray, List.getElem_cons_succ, List.getElem_cons_zero, Act.put, List.setIfInBounds_toArray, List.set_cons_succ, List.set_cons_zero, Nat.reduceAdd]
    refine wpAnyH_done (by kernel_rfl) ?_ _
    obtain ⟨i0, i1, i2, i3, i4, i5, i6, i7, i8, i9, i10, i11, i12⟩ := cells13 l5.r.res
    obtain ⟨j0, j1, j2, j3, j4, j5, j6, j7, j8, j9, j10, j11, j12⟩ := free13 l5.r.res
    go_wp2
    obtain ⟨u0, u1, u2, u3, u4, u5, u6, u7, u8, u9, u10, u11, u12⟩ := cells13 (put13 l5.r.res (.int .i64 0) (.int .i64 0) (.int .i64 0) (.slice none 0 0) (.slice none 0 0) (.int .i64 0) (.int .i64 0) (.int .i64 0) (.string ⟨#[]⟩) (.slice none 0 0) (.string ⟨#[]⟩) (.slice none 0 0) (.slice none 0 0))
    refine bodyPost_ret (v := .tuple #[tv 0 0 0 none 0 0 none 0 0 ln0 sl0, .slice none 0 0, .bool false]) (by simp [results, Tryz.results60, go_sem, ln0, sl0, u0, u1, u2, u3, u4, u5, u6, u7, u8, u9, u10, u11, u12]) rfl ?_
    exact HN.out _ _ _ _ _ _ _ _ _ _ _ _ _ _ _ (hv) (bel13 l5.r.bel (by omega) _ _ _ _ _ _ _ _ _ _ _ _ _)
  · rw [g1] at HRL
    have g8 : ((mem.size : Int) != 768) = false := by simp; omega
    have HNd : Hid (∀ W, Calls Tryz.prog 92 #[.string mem, .int .i64 d.ino] W fun e w' => ∃ (k o t : Int) (a : Option Addr) (n c : Nat) (x : ByteArray) (ae : Option Addr) (ne ce : Nat), e = .returned (.tuple #[nv k o t a n c x ae ne ce, .bool (nodeOk mem d.ino)]) ∧ Below W.heap.size W w' ∧
    (nodeOk mem d.ino = true → k = G0.gK (O0.recd mem d.ino) ∧ o = G0.gO (O0.recd mem d.ino) ∧ n = (G0.gZ (O0.recd mem d.ino)).length ∧ n ≤ c ∧ J0.Own W.heap.size w' a (G0.gZ (O0.recd mem d.ino)) ∧ ne = (nodeE mem d.ino).length ∧ ne ≤ ce ∧ V1.OwnE W.heap.size w' ae (nodeE mem d.ino))) := fun W => D1.readNode mem d.ino W g2
    rw [g3] at HNd
    clear g3
    go_enter Tryz.func60, Tryz.ntmps60
    go_wp2_with (first
      | (go_at_call 52; refine HRL.out.mono ?_; rintro e w1 ⟨k, o, t, a, n, c, ae, ne, ce, d', s', rfl, b1, hy1⟩; obtain ⟨ed, es, hh⟩ := hy1 rfl; subst d'; subst s'; have HH1 : Hid _ := hh; clear hh hy1; have r1 := r0.below b1; have n2 := K0.below_new w1 (tObj k o t a n c ae ne ce d s); have r2 := r1.below n2; have tb2 := K0.blk_new (tvs k o t a n c ae ne ce d s) w1 75; have hw1 : w.heap.size + 2 ≤ w1.heap.size := (by have := b1.size; simp at this; omega); have c0 := r2.arg.c0)
      | (go_at_call 92; refine (HNd.out _).mono ?_; rintro e w3 ⟨k2, o2, t2, a2, n2', c2, x2, ae2, ne2, ce2, rfl, b3, hy3⟩; have HH3 : Hid _ := hy3; clear hy3; have n3 := K0.below_new w3 (.cells #[.int .i64 k2, .int .i64 o2, .int .i64 t2, .slice a2 n2' c2, .string x2, .slice ae2 ne2 ce2] 121); have lk : LK w d s (tvs k o t a n c ae ne ce d s) (nvs k2 o2 t2 a2 n2' c2 x2 ae2 ne2 ce2) w1.heap.size w3.heap.size (w3.alloc (.cells #[.int .i64 k2, .int .i64 o2, .int .i64 t2, .slice a2 n2' c2, .string x2, .slice ae2 ne2 ce2] 121)) := ⟨(r2.below b3).below n3, (tb2.below b3).below n3, K0.blk_new (nvs k2 o2 t2 a2 n2' c2 x2 ae2 ne2 ce2) w3 121, hw1, (by have h1 := b3.size; simp at h1; omega)⟩))
    obtain ⟨Bt, hBt⟩ : ∃ B, w1.heap.size = B := ⟨_, rfl⟩
    obtain ⟨Bn, hBn⟩ : ∃ B, w3.heap.size = B := ⟨_, rfl⟩
    obtain ⟨hk, ho, ht, hn, hnc, hown, hne, hnce, hownE⟩ := HH1.out
    obtain ⟨hk2, ho2, hn2, hnc2, hown2, hne2, hnce2, hownE2⟩ := HH3.out (by trivial)
    have HLi : Hid (∀ W, Calls Tryz.prog 93 #[N5.pv k o t a n c ae ne ce, I0.val k2 o2 t2 a2 n2' c2] W fun e w' => e = .returned (.bool (like mem d)) ∧ Below W.heap.size W w') := fun W => (D0.isLike k o t a n c ae ne ce k2 o2 t2 a2 n2' c2 W).mono fun _ _ ⟨he, hb⟩ => ⟨by rw [he, hk2, ho2, hk, ho]; rfl, hb⟩
    rw [g4] at HLi
    have hZl : (G0.gZ (O0.recd mem d.ino)).length ≤ 100 := D3.gZ_len _
    obtain ⟨-, -, -, -, -, -, hp6, hp4, hp2, -, -, -, -⟩ := N0.loanOk_is g1
    have HCo : Hid (∀ W, Below w.heap.size w W → Calls Tryz.prog 95 #[.slice (some ⟨W.heap.size, 0, none⟩) 2 2] (W.alloc (.cells #[.slice s.a1 d.pg.length s.c1, .slice s.a2 d.po.length s.c2] 24)) fun e w' => ∃ a' c', e = .returned (.slice a' (d.pg ++ d.po).length c') ∧ J0.Own (W.alloc (.cells #[.slice s.a1 d.pg.length s.c1, .slice s.a2 d.po.length s.c2] 24)).heap.size w' a' (d.pg ++ d.po) ∧ (d.pg ++ d.po).length ≤ c' ∧ Below (W.alloc (.cells #[.slice s.a1 d.pg.length s.c1, .slice s.a2 d.po.length s.c2] 24)).heap.size (W.alloc (.cells #[.slice s.a1 d.pg.length s.c1, .slice s.a2 d.po.length s.c2] 24)) w') := fun W hb => by
      have hk := K0.blk_new [.slice s.a1 d.pg.length s.c1, .slice s.a2 d.po.length s.c2] W 24
      have hl := (HL.out W hb).alloc (.cells #[.slice s.a1 d.pg.length s.c1, .slice s.a2 d.po.length s.c2] 24)
      exact Q1.concat W.heap.size s.a1 s.a2 s.c1 s.c2 d.pg d.po _ hk.c0 hk.c1 hk.lt hl.r1 hl.r2 (by omega) (by omega)
    have row2 := hown2.row.below n3
    have HAm : Hid (∀ W a7 c7, Below (w3.alloc (.cells #[.int .i64 k2, .int .i64 o2, .int .i64 t2, .slice a2 n2' c2, .string x2, .slice ae2 ne2 ce2] 121)).heap.size (w3.alloc (.cells #[.int .i64 k2, .int .i64 o2, .int .i64 t2, .slice a2 n2' c2, .string x2, .slice ae2 ne2 ce2] 121)) W → P0.Row W a7 (d.pg ++ d.po) → Calls Tryz.prog 94 #[.slice a2 n2' c2, .slice a7 (d.pg ++ d.po).length c7] W fun e w' => e = .returned (.bool (N0.among (G0.gZ (O0.recd mem d.ino)) (d.pg ++ d.po))) ∧ w' = W) := fun W a7 c7 hb h7 => by
      have h := D0.allAmong a2 a7 c2 c7 (G0.gZ (O0.recd mem d.ino)) (d.pg ++ d.po) W (by omega) (by rw [List.length_append]; omega) (row2.below hb) h7
      rwa [← hn2] at h
    rw [g5] at HAm
    obtain ⟨W4, hW4⟩ : ∃ W4, w3.alloc (.cells #[.int .i64 k2, .int .i64 o2, .int .i64 t2, .slice a2 n2' c2, .string x2, .slice ae2 ne2 ce2] 121) = W4 := ⟨_, rfl⟩
    rw [hBt, hBn, hW4] at lk
    rw [hW4] at HAm
    simp only [hBt, hBn, hW4]
    have l4 := lk.below (W' := W4.drew) ((Below.refl _ _).drew)
    clear HH1 HH3
    try clear hk ho ht hn hne hk2 ho2 hn2 hne2
    have s4 : (fun W : World => W.cell? ⟨Bt, 0, none⟩ = some (.int .i64 k) ∧ W.cell? ⟨Bt, 1, none⟩ = some (.int .i64 o) ∧ W.cell? ⟨Bt, 2, none⟩ = some (.int .i64 t) ∧ W.cell? ⟨Bt, 3, none⟩ = some (.slice a n c) ∧ W.cell? ⟨Bt, 4, none⟩ = some (.slice ae ne ce) ∧ W.cell? ⟨Bn, 0, none⟩ = some (.int .i64 k2) ∧ W.cell? ⟨Bn, 1, none⟩ = some (.int .i64 o2) ∧ W.cell? ⟨Bn, 2, none⟩ = some (.int .i64 t2) ∧ W.cell? ⟨Bn, 3, none⟩ = some (.slice a2 n2' c2) ∧ W.cell? ⟨w.heap.size, 4, none⟩ = some (.slice s.a1 d.pg.length s.c1) ∧ W.cell? ⟨w.heap.size, 6, none⟩ = some (.slice s.a2 d.po.length s.c2)) (W4.drew) := (by obtain ⟨v0, v1, v2, v3, v4⟩ := D3.cells5 l4.tb; obtain ⟨z0, z1, z2, z3, -, -⟩ := cells6 l4.nb; exact ⟨v0, v1, v2, v3, v4, z0, z1, z2, z3, l4.r.arg.c4, l4.r.arg.c6⟩)
    refine wp_region_held (S := fun W => W.cell? ⟨Bt, 0, none⟩ = some (.int .i64 k) ∧ W.cell? ⟨Bt, 1, none⟩ = some (.int .i64 o) ∧ W.cell? ⟨Bt, 2, none⟩ = some (.int .i64 t) ∧ W.cell? ⟨Bt, 3, none⟩ = some (.slice a n c) ∧ W.cell? ⟨Bt, 4, none⟩ = some (.slice ae ne ce) ∧ W.cell? ⟨Bn, 0, none⟩ = some (.int .i64 k2) ∧ W.cell? ⟨Bn, 1, none⟩ = some (.int .i64 o2) ∧ W.cell? ⟨Bn, 2, none⟩ = some (.int .i64 t2) ∧ W.cell? ⟨Bn, 3, none⟩ = some (.slice a2 n2' c2) ∧ W.cell? ⟨w.heap.size, 4, none⟩ = some (.slice s.a1 d.pg.length s.c1) ∧ W.cell? ⟨w.heap.size, 6, none⟩ = some (.slice s.a2 d.po.length s.c2)) (by kernel_rfl) ?_
    refine wpAnyH_take (i := 0) (v := .bool true) rfl (by kernel_rfl) (by kernel_rfl) (by kernel_rfl) (fun _ _ _ h => h) (Or.inl ⟨by rfl, fun w' hS' => by rfl⟩) s4 ?_
    simp only [List.getElem_toArray, List.getElem_cons_succ, List.getElem_cons_zero, Act.put, List.setIfInBounds_toArray, List.set_cons_succ, List.set_cons_zero, Nat.reduceAdd]
    refine wpAnyH_take (i := 1) (v := .bool false) rfl (by kernel_rfl) (by kernel_rfl) (by kernel_rfl) (fun _ _ _ h => h) (Or.inl ⟨by rfl, fun w' hS' => by rfl⟩) s4 ?_
    simp only [List.getElem_toArray, List.getElem_cons_succ, List.getElem_cons_zero, Act.put, List.setIfInBounds_toArray, List.set_cons_succ, List.set_cons_zero, Nat.reduceAdd]
    refine wpAnyH_take (i := 2) (v := .bool false) rfl (by kernel_rfl) (by kernel_rfl) (by kernel_rfl) (fun _ _ _ h => h) (Or.inl ⟨by rfl, fun w' hS' => by rfl⟩) s4 ?_
    simp only [List.getElem_toArray, List.getElem_cons_succ, List.getElem_cons_zero, Act.put, List.setIfInBounds_toArray, List.set_cons_succ, List.set_cons_zero, Nat.reduceAdd]
    refine wpAnyH_take (i := 3) (v := .pointer (some ⟨Bt, 0, none⟩)) rfl (by kernel_rfl) (by kernel_rfl) (by kernel_rfl) (fun _ _ _ h => h) (Or.inl ⟨by rfl, fun w' hS' => ?_⟩) s4 ?_
    · obtain ⟨q0, q1, q2, q3, q4, p0, p1, p2, p3, m0, m1⟩ := hS'
      go_simp
    simp only [List.getElem_toArray, List.getElem_cons_succ, List.getElem_cons_zero, Act.put, List.setIfInBounds_toArray, List.set_cons_succ, List.set_cons_zero, Nat.reduceAdd]
    refine wpAnyH_take (i := 4) (v := N5.pv k o t a n c ae ne ce) rfl (by kernel_rfl) (by kernel_rfl) (by kernel_rfl) (fun _ _ _ h => h) (Or.inl ⟨by rfl, fun w' hS' => ?_⟩) s4 ?_
    · obtain ⟨q0, q1, q2, q3, q4, p0, p1, p2, p3, m0, m1⟩ := hS'
      go_simp
    simp only [List.getElem_toArray, List.getElem_cons_succ, List.getElem_cons_zero, Act.put, List.setIfInBounds_toArray, List.set_cons_succ, List.set_cons_zero, Nat.reduceAdd]
    refine wpAnyH_take (i := 5) (v := .pointer (some ⟨Bn, 0, none⟩)) rfl (by kernel_rfl) (by kernel_rfl) (by kernel_rfl) (fun _ _ _ h => h) (Or.inl ⟨by rfl, fun w' hS' => ?_⟩) s4 ?_
    · obtain ⟨q0, q1, q2, q3, q4, p0, p1, p2, p3, m0, m1⟩ := hS'
      go_simp
    simp only [List.getElem_toArray, List.getElem_cons_succ, List.getElem_cons_zero, Act.put, List.setIfInBounds_toArray, List.set_cons_succ, List.set_cons_zero, Nat.reduceAdd]
    refine wpAnyH_take (i := 6) (v := I0.val k2 o2 t2 a2 n2' c2) rfl (by kernel_rfl) (by kernel_rfl) (by kernel_rfl) (fun _ _ _ h => h) (Or.inl ⟨by rfl, fun w' hS' => ?_⟩) s4 ?_
    · obtain ⟨q0, q1, q2, q3, q4, p0, p1, p2, p3, m0, m1⟩ := hS'
      go_simp
    simp only [List.getElem_toArray, List.getElem_cons_succ, List.getElem_cons_zero, Act.put, List.setIfInBounds_toArray, List.set_cons_succ, List.set_cons_zero, Nat.reduceAdd]
    refine Y0.one_call2w (i := 7) (by kernel_rfl) rfl (by rfl) (.tmp 34) (.tmp 36) _ rfl (N5.pv k o t a n c ae ne ce) (I0.val k2 o2 t2 a2 n2' c2) (by rfl) (by rfl) (enters_of Tryz.func93 (by kernel_rfl) rfl) ((HLi.out _).mono ?_)
    rintro e w5 ⟨rfl, b5⟩
    have l5 := l4.below b5
    have s5 : (fun W : World => W.cell? ⟨Bt, 0, none⟩ = some (.int .i64 k) ∧ W.cell? ⟨Bt, 1, none⟩ = some (.int .i64 o) ∧ W.cell? ⟨Bt, 2, none⟩ = some (.int .i64 t) ∧ W.cell? ⟨Bt, 3, none⟩ = some (.slice a n c) ∧ W.cell? ⟨Bt, 4, none⟩ = some (.slice ae ne ce) ∧ W.cell? ⟨Bn, 0, none⟩ = some (.int .i64 k2) ∧ W.cell? ⟨Bn, 1, none⟩ = some (.int .i64 o2) ∧ W.cell? ⟨Bn, 2, none⟩ = some (.int .i64 t2) ∧ W.cell? ⟨Bn, 3, none⟩ = some (.slice a2 n2' c2) ∧ W.cell? ⟨w.heap.size, 4, none⟩ = some (.slice s.a1 d.pg.length s.c1) ∧ W.cell? ⟨w.heap.size, 6, none⟩ = some (.slice s.a2 d.po.length s.c2)) (w5) := (by obtain ⟨v0, v1, v2, v3, v4⟩ := D3.cells5 l5.tb; obtain ⟨z0, z1, z2, z3, -, -⟩ := cells6 l5.nb; exact ⟨v0, v1, v2, v3, v4, z0, z1, z2, z3, l5.r.arg.c4, l5.r.arg.c6⟩)
    refine ⟨_, rfl, s5, ?_⟩
    simp only [List.getElem_toArray, List.getElem_cons_succ, List.getElem_cons_zero, Act.put, List.setIfInBounds_toArray, List.set_cons_succ, List.set_cons_zero, Nat.reduceAdd]
    refine wpAnyH_take (i := 8) (v := .bool false) rfl (by kernel_rfl) (by kernel_rfl) (by kernel_rfl) (fun _ _ _ h => h) (Or.inl ⟨by rfl, fun w' hS' => by rfl⟩) s5 ?_
    simp only [List.getElem_toArray, List.getElem_cons_succ, List.getElem_cons_zero, Act.put, List.setIfInBounds_toArray, List.set_cons_succ, List.set_cons_zero, Nat.reduceAdd]
    refine wpAnyH_take (i := 9) (v := .bool false) rfl (by kernel_rfl) (by kernel_rfl) (by kernel_rfl) (fun _ _ _ h => h) (Or.inl ⟨by rfl, fun w' hS' => by rfl⟩) s5 ?_
    simp only [List.getElem_toArray, List.getElem_cons_succ, List.getElem_cons_zero, Act.put, List.setIfInBounds_toArray, List.set_cons_succ, List.set_cons_zero, Nat.reduceAdd]
    refine wpAnyH_take (i := 10) (v := .bool false) rfl (by kernel_rfl) (by kernel_rfl) (by kernel_rfl) (fun _ _ _ h => h) (Or.inl ⟨by rfl, fun w' hS' => by rfl⟩) s5 ?_
    simp only [List.getElem_toArray, List.getElem_cons_succ, List.getElem_cons_zero, Act.put, List.setIfInBounds_toArray, List.set_cons_succ, List.set_cons_zero, Nat.reduceAdd]
    refine wpAnyH_take (i := 11) (v := .pointer (some ⟨Bn, 0, none⟩)) rfl (by kernel_rfl) (by kernel_rfl) (by kernel_rfl) (fun _ _ _ h => h) (Or.inl ⟨by rfl, fun w' hS' => ?_⟩) s5 ?_
    · obtain ⟨q0, q1, q2, q3, q4, p0, p1, p2, p3, m0, m1⟩ := hS'
      go_simp
    simp only [List.getElem_toArray, List.getElem_cons_succ, List.getElem_cons_zero, Act.put, List.setIfInBounds_toArray, List.set_cons_succ, List.set_cons_zero, Nat.reduceAdd]
    refine wpAnyH_take (i := 12) (v := .pointer (some ⟨Bn, 3, none⟩)) rfl (by kernel_rfl) (by kernel_rfl) (by kernel_rfl) (fun _ _ _ h => h) (Or.inl ⟨by rfl, fun w' hS' => ?_⟩) s5 ?_
    · obtain ⟨q0, q1, q2, q3, q4, p0, p1, p2, p3, m0, m1⟩ := hS'
      go_simp
    simp only [List.getElem_toArray, List.getElem_cons_succ, List.getElem_cons_zero, Act.put, List.setIfInBounds_toArray, List.set_cons_succ, List.set_cons_zero, Nat.reduceAdd]
    refine wpAnyH_take (i := 13) (v := (.slice a2 n2' c2)) rfl (by kernel_rfl) (by kernel_rfl) (by kernel_rfl) (fun _ _ _ h => h) (Or.inl ⟨by rfl, fun w' hS' => ?_⟩) s5 ?_
    · obtain ⟨q0, q1, q2, q3, q4, p0, p1, p2, p3, m0, m1⟩ := hS'
      go_simp
    simp only [List.getElem_toArray, List.getElem_cons_succ, List.getElem_cons_zero, Act.put, List.setIfInBounds_toArray, List.set_cons_succ, List.set_cons_zero, Nat.reduceAdd]
    refine wpAnyH_take (i := 14) (v := .pointer (some ⟨w.heap.size, 4, none⟩)) rfl (by kernel_rfl) (by kernel_rfl) (by kernel_rfl) (fun _ _ _ h => h) (Or.inl ⟨by rfl, fun w' hS' => ?_⟩) s5 ?_
    · obtain ⟨q0, q1, q2, q3, q4, p0, p1, p2, p3, m0, m1⟩ := hS'
      go_simp
    simp only [List.getElem_toArray, List.getElem_cons_succ, List.getElem_cons_zero, Act.put, List.setIfInBounds_toArray, List.set_cons_succ, List.set_cons_zero, Nat.reduceAdd]
    refine wpAnyH_take (i := 15) (v := (.slice s.a1 d.pg.length s.c1)) rfl (by kernel_rfl) (by kernel_rfl) (by kernel_rfl) (fun _ _ _ h => h) (Or.inl ⟨by rfl, fun w' hS' => ?_⟩) s5 ?_
    · obtain ⟨q0, q1, q2, q3, q4, p0, p1, p2, p3, m0, m1⟩ := hS'
      go_simp
    simp only [List.getElem_toArray, List.getElem_cons_succ, List.getElem_cons_zero, Act.put, List.setIfInBounds_toArray, List.set_cons_succ, List.set_cons_zero, Nat.reduceAdd]
    refine wpAnyH_take (i := 16) (v := .pointer (some ⟨w.heap.size, 6, none⟩)) rfl (by kernel_rfl) (by kernel_rfl) (by kernel_rfl) (fun _ _ _ h => h) (Or.inl ⟨by rfl, fun w' hS' => ?_⟩) s5 ?_
    · obtain ⟨q0, q1, q2, q3, q4, p0, p1, p2, p3, m0, m1⟩ := hS'
      go_simp
    simp only [List.getElem_toArray, List.getElem_cons_succ, List.getElem_cons_zero, Act.put, List.setIfInBounds_toArray, List.set_cons_succ, List.set_cons_zero, Nat.reduceAdd]
    refine wpAnyH_take (i := 17) (v := (.slice s.a2 d.po.length s.c2)) rfl (by kernel_rfl) (by kernel_rfl) (by kernel_rfl) (fun _ _ _ h => h) (Or.inl ⟨by rfl, fun w' hS' => ?_⟩) s5 ?_
    · obtain ⟨q0, q1, q2, q3, q4, p0, p1, p2, p3, m0, m1⟩ := hS'
      go_simp
    simp only [List.getElem_toArray, List.getElem_cons_succ, List.getElem_cons_zero, Act.put, List.setIfInBounds_toArray, List.set_cons_succ, List.set_cons_zero, Nat.reduceAdd]
    have hW7 : Below W4.heap.size W4 (w5.alloc (.cells #[.slice s.a1 d.pg.length s.c1, .slice s.a2 d.po.length s.c2] 24)) := (show Below W4.heap.size W4 w5 from ⟨b5.os, b5.tape, b5.output, b5.size, b5.block⟩).trans ((K0.below_new w5 (.cells #[.slice s.a1 d.pg.length s.c1, .slice s.a2 d.po.length s.c2] 24)).mono b5.size)
    have l6 := l5.below (K0.below_new w5 (.cells #[.slice s.a1 d.pg.length s.c1, .slice s.a2 d.po.length s.c2] 24))
    have s6 : (fun W : World => W.cell? ⟨Bt, 0, none⟩ = some (.int .i64 k) ∧ W.cell? ⟨Bt, 1, none⟩ = some (.int .i64 o) ∧ W.cell? ⟨Bt, 2, none⟩ = some (.int .i64 t) ∧ W.cell? ⟨Bt, 3, none⟩ = some (.slice a n c) ∧ W.cell? ⟨Bt, 4, none⟩ = some (.slice ae ne ce) ∧ W.cell? ⟨Bn, 0, none⟩ = some (.int .i64 k2) ∧ W.cell? ⟨Bn, 1, none⟩ = some (.int .i64 o2) ∧ W.cell? ⟨Bn, 2, none⟩ = some (.int .i64 t2) ∧ W.cell? ⟨Bn, 3, none⟩ = some (.slice a2 n2' c2) ∧ W.cell? ⟨w.heap.size, 4, none⟩ = some (.slice s.a1 d.pg.length s.c1) ∧ W.cell? ⟨w.heap.size, 6, none⟩ = some (.slice s.a2 d.po.length s.c2)) (w5.alloc (.cells #[.slice s.a1 d.pg.length s.c1, .slice s.a2 d.po.length s.c2] 24)) := (by obtain ⟨v0, v1, v2, v3, v4⟩ := D3.cells5 l6.tb; obtain ⟨z0, z1, z2, z3, -, -⟩ := cells6 l6.nb; exact ⟨v0, v1, v2, v3, v4, z0, z1, z2, z3, l6.r.arg.c4, l6.r.arg.c6⟩)
    refine Y0.one_plain (i := 18) (u := .slice (some ⟨w5.heap.size, 0, none⟩) 2 2) (w' := w5.alloc (.cells #[.slice s.a1 d.pg.length s.c1, .slice s.a2 d.po.length s.c2] 24)) (by kernel_rfl) rfl (by rfl) ?_ s6 ?_
    · go_simp
    simp only [List.getElem_toArray, List.getElem_cons_succ, List.getElem_cons_zero, Act.put, List.setIfInBounds_toArray, List.set_cons_succ, List.set_cons_zero, Nat.reduceAdd]
    refine Y0.one_callw (i := 19) (by kernel_rfl) rfl (by rfl) (.tmp 48) _ rfl (.slice (some ⟨w5.heap.size, 0, none⟩) 2 2) (by rfl) (enters_of Tryz.func95 (by kernel_rfl) rfl) ((HCo.out w5 (l5.r.bel)).mono ?_)
    rintro e w7 ⟨a7, c7, rfl, ho7, hc7, b7⟩
    have l7 := l6.below b7
    have s7 : (fun W : World => W.cell? ⟨Bt, 0, none⟩ = some (.int .i64 k) ∧ W.cell? ⟨Bt, 1, none⟩ = some (.int .i64 o) ∧ W.cell? ⟨Bt, 2, none⟩ = some (.int .i64 t) ∧ W.cell? ⟨Bt, 3, none⟩ = some (.slice a n c) ∧ W.cell? ⟨Bt, 4, none⟩ = some (.slice ae ne ce) ∧ W.cell? ⟨Bn, 0, none⟩ = some (.int .i64 k2) ∧ W.cell? ⟨Bn, 1, none⟩ = some (.int .i64 o2) ∧ W.cell? ⟨Bn, 2, none⟩ = some (.int .i64 t2) ∧ W.cell? ⟨Bn, 3, none⟩ = some (.slice a2 n2' c2) ∧ W.cell? ⟨w.heap.size, 4, none⟩ = some (.slice s.a1 d.pg.length s.c1) ∧ W.cell? ⟨w.heap.size, 6, none⟩ = some (.slice s.a2 d.po.length s.c2)) (w7) := (by obtain ⟨v0, v1, v2, v3, v4⟩ := D3.cells5 l7.tb; obtain ⟨z0, z1, z2, z3, -, -⟩ := cells6 l7.nb; exact ⟨v0, v1, v2, v3, v4, z0, z1, z2, z3, l7.r.arg.c4, l7.r.arg.c6⟩)
    refine ⟨_, rfl, s7, ?_⟩
    simp only [List.getElem_toArray, List.getElem_cons_succ, List.getElem_cons_zero, Act.put, List.setIfInBounds_toArray, List.set_cons_succ, List.set_cons_zero, Nat.reduceAdd]
    refine Y0.one_call2w (i := 20) (by kernel_rfl) rfl (by rfl) (.tmp 43) (.tmp 49) _ rfl ((.slice a2 n2' c2)) (.slice a7 (d.pg ++ d.po).length c7) (by rfl) (by rfl) (enters_of Tryz.func94 (by kernel_rfl) rfl) ((HAm.out w7 a7 c7 (Below.trans hW7 (b7.mono hW7.size)) ho7.row).mono ?_)
    rintro e w8 ⟨rfl, e8⟩
    subst w8
    refine ⟨_, rfl, s7, ?_⟩
    simp only [List.getElem_toArray, List.getElem_cons_succ, List.getElem_cons_zero, Act.put, List.setIfInBounds_toArray, List.set_cons_succ, List.set_cons_zero, Nat.reduceAdd]
    refine wpAnyH_take (i := 21) (v := .bool true) rfl (by kernel_rfl) (by kernel_rfl) (by kernel_rfl) (fun _ _ _ h => h) (Or.inl ⟨by rfl, fun w' hS' => by rfl⟩) s7 ?_
    simp only [List.getElem_toArray, List.getElem_cons_succ, List.getElem_cons_zero, Act.put, List.setIfInBounds_toArray, List.set_cons_succ, List.set_cons_zero, Nat.reduceAdd]
    refine wpAnyH_take (i := 22) (v := .bool true) rfl (by kernel_rfl) (by kernel_rfl) (by kernel_rfl) (fun _ _ _ h => h) (Or.inl ⟨by rfl, fun w' hS' => by rfl⟩) s7 ?_
    simp only [List.getElem_toArray, List.getElem_cons_succ, List.getElem_cons_zero, Act.put, List.setIfInBounds_toArray, List.set_cons_succ, List.set_cons_zero, Nat.reduceAdd]
    refine wpAnyH_done (by kernel_rfl) ?_ _
    obtain ⟨i0, i1, i2, i3, i4, i5, i6, i7, i8, i9, i10, i11, i12⟩ := cells13 l7.r.res
    obtain ⟨j0, j1, j2, j3, j4, j5, j6, j7, j8, j9, j10, j11, j12⟩ := free13 l7.r.res
    go_wp2
    obtain ⟨u0, u1, u2, u3, u4, u5, u6, u7, u8, u9, u10, u11, u12⟩ := cells13 (put13 l7.r.res (.int .i64 0) (.int .i64 0) (.int .i64 0) (.slice none 0 0) (.slice none 0 0) (.int .i64 0) (.int .i64 0) (.int .i64 0) (.string ⟨#[]⟩) (.slice none 0 0) (.string ⟨#[]⟩) (.slice none 0 0) (.slice none 0 0))
    refine bodyPost_ret (v := .tuple #[tv 0 0 0 none 0 0 none 0 0 ln0 sl0, .slice none 0 0, .bool false]) (by simp [results, Tryz.results60, go_sem, ln0, sl0, u0, u1, u2, u3, u4, u5, u6, u7, u8, u9, u10, u11, u12]) rfl ?_
    exact HN.out _ _ _ _ _ _ _ _ _ _ _ _ _ _ _ (hv) (bel13 l7.r.bel (by omega) _ _ _ _ _ _ _ _ _ _ _ _ _)
  · rw [g1] at HRL
    have g8 : ((mem.size : Int) != 768) = false := by simp; omega
    have HNd : Hid (∀ W, Calls Tryz.prog 92 #[.string mem, .int .i64 d.ino] W fun e w' => ∃ (k o t : Int) (a : Option Addr) (n c : Nat) (x : ByteArray) (ae : Option Addr) (ne ce : Nat), e = .returned (.tuple #[nv k o t a n c x ae ne ce, .bool (nodeOk mem d.ino)]) ∧ Below W.heap.size W w' ∧
    (nodeOk mem d.ino = true → k = G0.gK (O0.recd mem d.ino) ∧ o = G0.gO (O0.recd mem d.ino) ∧ n = (G0.gZ (O0.recd mem d.ino)).length ∧ n ≤ c ∧ J0.Own W.heap.size w' a (G0.gZ (O0.recd mem d.ino)) ∧ ne = (nodeE mem d.ino).length ∧ ne ≤ ce ∧ V1.OwnE W.heap.size w' ae (nodeE mem d.ino))) := fun W => D1.readNode mem d.ino W g2
    rw [g3] at HNd
    clear g3
    go_enter Tryz.func60, Tryz.ntmps60
    go_wp2_with (first
      | (go_at_call 52; refine HRL.out.mono ?_; rintro e w1 ⟨k, o, t, a, n, c, ae, ne, ce, d', s', rfl, b1, hy1⟩; obtain ⟨ed, es, hh⟩ := hy1 rfl; subst d'; subst s'; have HH1 : Hid _ := hh; clear hh hy1; have r1 := r0.below b1; have n2 := K0.below_new w1 (tObj k o t a n c ae ne ce d s); have r2 := r1.below n2; have tb2 := K0.blk_new (tvs k o t a n c ae ne ce d s) w1 75; have hw1 : w.heap.size + 2 ≤ w1.heap.size := (by have := b1.size; simp at this; omega); have c0 := r2.arg.c0)
      | (go_at_call 92; refine (HNd.out _).mono ?_; rintro e w3 ⟨k2, o2, t2, a2, n2', c2, x2, ae2, ne2, ce2, rfl, b3, hy3⟩; have HH3 : Hid _ := hy3; clear hy3; have n3 := K0.below_new w3 (.cells #[.int .i64 k2, .int .i64 o2, .int .i64 t2, .slice a2 n2' c2, .string x2, .slice ae2 ne2 ce2] 121); have lk : LK w d s (tvs k o t a n c ae ne ce d s) (nvs k2 o2 t2 a2 n2' c2 x2 ae2 ne2 ce2) w1.heap.size w3.heap.size (w3.alloc (.cells #[.int .i64 k2, .int .i64 o2, .int .i64 t2, .slice a2 n2' c2, .string x2, .slice ae2 ne2 ce2] 121)) := ⟨(r2.below b3).below n3, (tb2.below b3).below n3, K0.blk_new (nvs k2 o2 t2 a2 n2' c2 x2 ae2 ne2 ce2) w3 121, hw1, (by have h1 := b3.size; simp at h1; omega)⟩))
    obtain ⟨Bt, hBt⟩ : ∃ B, w1.heap.size = B := ⟨_, rfl⟩
    obtain ⟨Bn, hBn⟩ : ∃ B, w3.heap.size = B := ⟨_, rfl⟩
    obtain ⟨hk, ho, ht, hn, hnc, hown, hne, hnce, hownE⟩ := HH1.out
    obtain ⟨hk2, ho2, hn2, hnc2, hown2, hne2, hnce2, hownE2⟩ := HH3.out (by trivial)
    have HLi : Hid (∀ W, Calls Tryz.prog 93 #[N5.pv k o t a n c ae ne ce, I0.val k2 o2 t2 a2 n2' c2] W fun e w' => e = .returned (.bool (like mem d)) ∧ Below W.heap.size W w') := fun W => (D0.isLike k o t a n c ae ne ce k2 o2 t2 a2 n2' c2 W).mono fun _ _ ⟨he, hb⟩ => ⟨by rw [he, hk2, ho2, hk, ho]; rfl, hb⟩
    rw [g4] at HLi
    have hZl : (G0.gZ (O0.recd mem d.ino)).length ≤ 100 := D3.gZ_len _
    obtain ⟨-, -, -, -, -, -, hp6, hp4, hp2, -, -, -, -⟩ := N0.loanOk_is g1
    have HCo : Hid (∀ W, Below w.heap.size w W → Calls Tryz.prog 95 #[.slice (some ⟨W.heap.size, 0, none⟩) 2 2] (W.alloc (.cells #[.slice s.a1 d.pg.length s.c1, .slice s.a2 d.po.length s.c2] 24)) fun e w' => ∃ a' c', e = .returned (.slice a' (d.pg ++ d.po).length c') ∧ J0.Own (W.alloc (.cells #[.slice s.a1 d.pg.length s.c1, .slice s.a2 d.po.length s.c2] 24)).heap.size w' a' (d.pg ++ d.po) ∧ (d.pg ++ d.po).length ≤ c' ∧ Below (W.alloc (.cells #[.slice s.a1 d.pg.length s.c1, .slice s.a2 d.po.length s.c2] 24)).heap.size (W.alloc (.cells #[.slice s.a1 d.pg.length s.c1, .slice s.a2 d.po.length s.c2] 24)) w') := fun W hb => by
      have hk := K0.blk_new [.slice s.a1 d.pg.length s.c1, .slice s.a2 d.po.length s.c2] W 24
      have hl := (HL.out W hb).alloc (.cells #[.slice s.a1 d.pg.length s.c1, .slice s.a2 d.po.length s.c2] 24)
      exact Q1.concat W.heap.size s.a1 s.a2 s.c1 s.c2 d.pg d.po _ hk.c0 hk.c1 hk.lt hl.r1 hl.r2 (by omega) (by omega)
    have row2 := hown2.row.below n3
    have HAm : Hid (∀ W a7 c7, Below (w3.alloc (.cells #[.int .i64 k2, .int .i64 o2, .int .i64 t2, .slice a2 n2' c2, .string x2, .slice ae2 ne2 ce2] 121)).heap.size (w3.alloc (.cells #[.int .i64 k2, .int .i64 o2, .int .i64 t2, .slice a2 n2' c2, .string x2, .slice ae2 ne2 ce2] 121)) W → P0.Row W a7 (d.pg ++ d.po) → Calls Tryz.prog 94 #[.slice a2 n2' c2, .slice a7 (d.pg ++ d.po).length c7] W fun e w' => e = .returned (.bool (N0.among (G0.gZ (O0.recd mem d.ino)) (d.pg ++ d.po))) ∧ w' = W) := fun W a7 c7 hb h7 => by
      have h := D0.allAmong a2 a7 c2 c7 (G0.gZ (O0.recd mem d.ino)) (d.pg ++ d.po) W (by omega) (by rw [List.length_append]; omega) (row2.below hb) h7
      rwa [← hn2] at h
    rw [g5] at HAm
    have rowE := hownE.row
    have rowN := hownE2.row.below n3
    have hEW0 : Below w1.heap.size w1 (w3.alloc (.cells #[.int .i64 k2, .int .i64 o2, .int .i64 t2, .slice a2 n2' c2, .string x2, .slice ae2 ne2 ce2] 121)) := (n2.trans (b3.mono n2.size)).trans (n3.mono (Nat.le_trans n2.size b3.size))
    have HEn : Hid (∀ W, Below (w3.alloc (.cells #[.int .i64 k2, .int .i64 o2, .int .i64 t2, .slice a2 n2' c2, .string x2, .slice ae2 ne2 ce2] 121)).heap.size (w3.alloc (.cells #[.int .i64 k2, .int .i64 o2, .int .i64 t2, .slice a2 n2' c2, .string x2, .slice ae2 ne2 ce2] 121)) W → Calls Tryz.prog 96 #[tv k o t a n c ae ne ce d s, .string mem, nv k2 o2 t2 a2 n2' c2 x2 ae2 ne2 ce2] W fun e w' => e = .returned (.bool (D3.entOk mem d (G0.gZ (O0.recd mem d.ino)) (nodeE mem d.ino))) ∧ Below W.heap.size W w') := fun W hb => by
      have hW : Below w.heap.size w W := ((r2.below b3).below n3).bel.trans (hb.mono ((r2.below b3).below n3).bel.size)
      have hl := HL.out W hW
      have h := D3.entriesOk k o t a n c ae ce d s mem k2 o2 t2 a2 c2 x2 ae2 ce2 (G0.gZ (O0.recd mem d.ino)) (nodeE mem d.ino) W hms hpo hfr (by omega) (nodeE_len _ _) (oldE_len _) hl.r2 hl.r3 (rowE.below (hEW0.trans (hb.mono hEW0.size))) (row2.below hb) (rowN.below hb)
      rw [← hn2, ← hne2, ← hne] at h
      exact h
    have HFin : Hid (∀ W, Below (w3.alloc (.cells #[.int .i64 k2, .int .i64 o2, .int .i64 t2, .slice a2 n2' c2, .string x2, .slice ae2 ne2 ce2] 121)).heap.size (w3.alloc (.cells #[.int .i64 k2, .int .i64 o2, .int .i64 t2, .slice a2 n2' c2, .string x2, .slice ae2 ne2 ce2] 121)) W → Below w.heap.size w (W13 W (w.heap.size + 1) (.int .i64 k) (.int .i64 o) (.int .i64 t) (.slice a n c) (.slice ae ne ce) (.int .i64 d.ino) (.int .i64 d.cl) (.int .i64 d.un) (.string d.rc) (.slice s.a1 d.pg.length s.c1) (.string d.sav) (.slice s.a2 d.po.length s.c2) (.slice s.a3 d.fr.length s.c3)) → R (.returned (.tuple #[tv k o t a n c ae ne ce d s, .slice ae2 ne2 ce2, .bool (D3.entOk mem d (G0.gZ (O0.recd mem d.ino)) (nodeE mem d.ino))])) (W13 W (w.heap.size + 1) (.int .i64 k) (.int .i64 o) (.int .i64 t) (.slice a n c) (.slice ae ne ce) (.int .i64 d.ino) (.int .i64 d.cl) (.int .i64 d.un) (.string d.rc) (.slice s.a1 d.pg.length s.c1) (.string d.sav) (.slice s.a2 d.po.length s.c2) (.slice s.a3 d.fr.length s.c3))) := fun W hb hbl => by
      have e1 := hownE.below (hEW0.trans (hb.mono hEW0.size))
      have e2 := (hownE2.below n3).below hb
      have h1 : w.heap.size + 1 < (N9.w00 w d s).heap.size := by simp
      have f1 := N9.ownE13 e1 h1 (.int .i64 k) (.int .i64 o) (.int .i64 t) (.slice a n c) (.slice ae ne ce) (.int .i64 d.ino) (.int .i64 d.cl) (.int .i64 d.un) (.string d.rc) (.slice s.a1 d.pg.length s.c1) (.string d.sav) (.slice s.a2 d.po.length s.c2) (.slice s.a3 d.fr.length s.c3)
      have h2 : w.heap.size + 1 < (w1.alloc (tObj k o t a n c ae ne ce d s)).heap.size := by simp; omega
      have f2 := N9.ownE13 e2 h2 (.int .i64 k) (.int .i64 o) (.int .i64 t) (.slice a n c) (.slice ae ne ce) (.int .i64 d.ino) (.int .i64 d.cl) (.int .i64 d.un) (.string d.rc) (.slice s.a1 d.pg.length s.c1) (.string d.sav) (.slice s.a2 d.po.length s.c2) (.slice s.a3 d.fr.length s.c3)
      have h := HI.out k o t a n c ae ce ae2 ce2 _ _ hv hbl f1.row f2.row
      rwa [← hne, ← hne2] at h
    obtain ⟨eb, heb⟩ : ∃ eb, D3.entOk mem d (G0.gZ (O0.recd mem d.ino)) (nodeE mem d.ino) = eb := ⟨_, rfl⟩
    rw [heb] at HEn HFin
    obtain ⟨W4, hW4⟩ : ∃ W4, w3.alloc (.cells #[.int .i64 k2, .int .i64 o2, .int .i64 t2, .slice a2 n2' c2, .string x2, .slice ae2 ne2 ce2] 121) = W4 := ⟨_, rfl⟩
    rw [hBt, hBn, hW4] at lk
    rw [hW4] at HAm HEn HFin
    simp only [hBt, hBn, hW4]
    have l4 := lk.below (W' := W4.drew) ((Below.refl _ _).drew)
    clear HH1 HH3
    try clear hk ho ht hn hne hk2 ho2 hn2 hne2
    have s4 : (fun W : World => W.cell? ⟨Bt, 0, none⟩ = some (.int .i64 k) ∧ W.cell? ⟨Bt, 1, none⟩ = some (.int .i64 o) ∧ W.cell? ⟨Bt, 2, none⟩ = some (.int .i64 t) ∧ W.cell? ⟨Bt, 3, none⟩ = some (.slice a n c) ∧ W.cell? ⟨Bt, 4, none⟩ = some (.slice ae ne ce) ∧ W.cell? ⟨Bn, 0, none⟩ = some (.int .i64 k2) ∧ W.cell? ⟨Bn, 1, none⟩ = some (.int .i64 o2) ∧ W.cell? ⟨Bn, 2, none⟩ = some (.int .i64 t2) ∧ W.cell? ⟨Bn, 3, none⟩ = some (.slice a2 n2' c2) ∧ W.cell? ⟨w.heap.size, 4, none⟩ = some (.slice s.a1 d.pg.length s.c1) ∧ W.cell? ⟨w.heap.size, 6, none⟩ = some (.slice s.a2 d.po.length s.c2)) (W4.drew) := (by obtain ⟨v0, v1, v2, v3, v4⟩ := D3.cells5 l4.tb; obtain ⟨z0, z1, z2, z3, -, -⟩ := cells6 l4.nb; exact ⟨v0, v1, v2, v3, v4, z0, z1, z2, z3, l4.r.arg.c4, l4.r.arg.c6⟩)
    refine wp_region_held (S := fun W => W.cell? ⟨Bt, 0, none⟩ = some (.int .i64 k) ∧ W.cell? ⟨Bt, 1, none⟩ = some (.int .i64 o) ∧ W.cell? ⟨Bt, 2, none⟩ = some (.int .i64 t) ∧ W.cell? ⟨Bt, 3, none⟩ = some (.slice a n c) ∧ W.cell? ⟨Bt, 4, none⟩ = some (.slice ae ne ce) ∧ W.cell? ⟨Bn, 0, none⟩ = some (.int .i64 k2) ∧ W.cell? ⟨Bn, 1, none⟩ = some (.int .i64 o2) ∧ W.cell? ⟨Bn, 2, none⟩ = some (.int .i64 t2) ∧ W.cell? ⟨Bn, 3, none⟩ = some (.slice a2 n2' c2) ∧ W.cell? ⟨w.heap.size, 4, none⟩ = some (.slice s.a1 d.pg.length s.c1) ∧ W.cell? ⟨w.heap.size, 6, none⟩ = some (.slice s.a2 d.po.length s.c2)) (by kernel_rfl) ?_
    refine wpAnyH_take (i := 0) (v := .bool true) rfl (by kernel_rfl) (by kernel_rfl) (by kernel_rfl) (fun _ _ _ h => h) (Or.inl ⟨by rfl, fun w' hS' => by rfl⟩) s4 ?_
    simp only [List.getElem_toArray, List.getElem_cons_succ, List.getElem_cons_zero, Act.put, List.setIfInBounds_toArray, List.set_cons_succ, List.set_cons_zero, Nat.reduceAdd]
    refine wpAnyH_take (i := 1) (v := .bool false) rfl (by kernel_rfl) (by kernel_rfl) (by kernel_rfl) (fun _ _ _ h => h) (Or.inl ⟨by rfl, fun w' hS' => by rfl⟩) s4 ?_
    simp only [List.getElem_toArray, List.getElem_cons_succ, List.getElem_cons_zero, Act.put, List.setIfInBounds_toArray, List.set_cons_succ, List.set_cons_zero, Nat.reduceAdd]
    refine wpAnyH_take (i := 2) (v := .bool false) rfl (by kernel_rfl) (by kernel_rfl) (by kernel_rfl) (fun _ _ _ h => h) (Or.inl ⟨by rfl, fun w' hS' => by rfl⟩) s4 ?_
    simp only [List.getElem_toArray, List.getElem_cons_succ, List.getElem_cons_zero, Act.put, List.setIfInBounds_toArray, List.set_cons_succ, List.set_cons_zero, Nat.reduceAdd]
    refine wpAnyH_take (i := 3) (v := .pointer (some ⟨Bt, 0, none⟩)) rfl (by kernel_rfl) (by kernel_rfl) (by kernel_rfl) (fun _ _ _ h => h) (Or.inl ⟨by rfl, fun w' hS' => ?_⟩) s4 ?_
    · obtain ⟨q0, q1, q2, q3, q4, p0, p1, p2, p3, m0, m1⟩ := hS'
      go_simp
    simp only [List.getElem_toArray, List.getElem_cons_succ, List.getElem_cons_zero, Act.put, List.setIfInBounds_toArray, List.set_cons_succ, List.set_cons_zero, Nat.reduceAdd]
    refine wpAnyH_take (i := 4) (v := N5.pv k o t a n c ae ne ce) rfl (by kernel_rfl) (by kernel_rfl) (by kernel_rfl) (fun _ _ _ h => h) (Or.inl ⟨by rfl, fun w' hS' => ?_⟩) s4 ?_
    · obtain ⟨q0, q1, q2, q3, q4, p0, p1, p2, p3, m0, m1⟩ := hS'
      go_simp
    simp only [List.getElem_toArray, List.getElem_cons_succ, List.getElem_cons_zero, Act.put, List.setIfInBounds_toArray, List.set_cons_succ, List.set_cons_zero, Nat.reduceAdd]
    refine wpAnyH_take (i := 5) (v := .pointer (some ⟨Bn, 0, none⟩)) rfl (by kernel_rfl) (by kernel_rfl) (by kernel_rfl) (fun _ _ _ h => h) (Or.inl ⟨by rfl, fun w' hS' => ?_⟩) s4 ?_
    · obtain ⟨q0, q1, q2, q3, q4, p0, p1, p2, p3, m0, m1⟩ := hS'
      go_simp
    simp only [List.getElem_toArray, List.getElem_cons_succ, List.getElem_cons_zero, Act.put, List.setIfInBounds_toArray, List.set_cons_succ, List.set_cons_zero, Nat.reduceAdd]
    refine wpAnyH_take (i := 6) (v := I0.val k2 o2 t2 a2 n2' c2) rfl (by kernel_rfl) (by kernel_rfl) (by kernel_rfl) (fun _ _ _ h => h) (Or.inl ⟨by rfl, fun w' hS' => ?_⟩) s4 ?_
    · obtain ⟨q0, q1, q2, q3, q4, p0, p1, p2, p3, m0, m1⟩ := hS'
      go_simp
    simp only [List.getElem_toArray, List.getElem_cons_succ, List.getElem_cons_zero, Act.put, List.setIfInBounds_toArray, List.set_cons_succ, List.set_cons_zero, Nat.reduceAdd]
    refine Y0.one_call2w (i := 7) (by kernel_rfl) rfl (by rfl) (.tmp 34) (.tmp 36) _ rfl (N5.pv k o t a n c ae ne ce) (I0.val k2 o2 t2 a2 n2' c2) (by rfl) (by rfl) (enters_of Tryz.func93 (by kernel_rfl) rfl) ((HLi.out _).mono ?_)
    rintro e w5 ⟨rfl, b5⟩
    have l5 := l4.below b5
    have s5 : (fun W : World => W.cell? ⟨Bt, 0, none⟩ = some (.int .i64 k) ∧ W.cell? ⟨Bt, 1, none⟩ = some (.int .i64 o) ∧ W.cell? ⟨Bt, 2, none⟩ = some (.int .i64 t) ∧ W.cell? ⟨Bt, 3, none⟩ = some (.slice a n c) ∧ W.cell? ⟨Bt, 4, none⟩ = some (.slice ae ne ce) ∧ W.cell? ⟨Bn, 0, none⟩ = some (.int .i64 k2) ∧ W.cell? ⟨Bn, 1, none⟩ = some (.int .i64 o2) ∧ W.cell? ⟨Bn, 2, none⟩ = some (.int .i64 t2) ∧ W.cell? ⟨Bn, 3, none⟩ = some (.slice a2 n2' c2) ∧ W.cell? ⟨w.heap.size, 4, none⟩ = some (.slice s.a1 d.pg.length s.c1) ∧ W.cell? ⟨w.heap.size, 6, none⟩ = some (.slice s.a2 d.po.length s.c2)) (w5) := (by obtain ⟨v0, v1, v2, v3, v4⟩ := D3.cells5 l5.tb; obtain ⟨z0, z1, z2, z3, -, -⟩ := cells6 l5.nb; exact ⟨v0, v1, v2, v3, v4, z0, z1, z2, z3, l5.r.arg.c4, l5.r.arg.c6⟩)
    refine ⟨_, rfl, s5, ?_⟩
    simp only [List.getElem_toArray, List.getElem_cons_succ, List.getElem_cons_zero, Act.put, List.setIfInBounds_toArray, List.set_cons_succ, List.set_cons_zero, Nat.reduceAdd]
    refine wpAnyH_take (i := 8) (v := .bool false) rfl (by kernel_rfl) (by kernel_rfl) (by kernel_rfl) (fun _ _ _ h => h) (Or.inl ⟨by rfl, fun w' hS' => by rfl⟩) s5 ?_
    simp only [List.getElem_toArray, List.getElem_cons_succ, List.getElem_cons_zero, Act.put, List.setIfInBounds_toArray, List.set_cons_succ, List.set_cons_zero, Nat.reduceAdd]
    refine wpAnyH_take (i := 9) (v := .bool false) rfl (by kernel_rfl) (by kernel_rfl) (by kernel_rfl) (fun _ _ _ h => h) (Or.inl ⟨by rfl, fun w' hS' => by rfl⟩) s5 ?_
    simp only [List.getElem_toArray, List.getElem_cons_succ, List.getElem_cons_zero, Act.put, List.setIfInBounds_toArray, List.set_cons_succ, List.set_cons_zero, Nat.reduceAdd]
    refine wpAnyH_take (i := 10) (v := .bool false) rfl (by kernel_rfl) (by kernel_rfl) (by kernel_rfl) (fun _ _ _ h => h) (Or.inl ⟨by rfl, fun w' hS' => by rfl⟩) s5 ?_
    simp only [List.getElem_toArray, List.getElem_cons_succ, List.getElem_cons_zero, Act.put, List.setIfInBounds_toArray, List.set_cons_succ, List.set_cons_zero, Nat.reduceAdd]
    refine wpAnyH_take (i := 11) (v := .pointer (some ⟨Bn, 0, none⟩)) rfl (by kernel_rfl) (by kernel_rfl) (by kernel_rfl) (fun _ _ _ h => h) (Or.inl ⟨by rfl, fun w' hS' => ?_⟩) s5 ?_
    · obtain ⟨q0, q1, q2, q3, q4, p0, p1, p2, p3, m0, m1⟩ := hS'
      go_simp
    simp only [List.getElem_toArray, List.getElem_cons_succ, List.getElem_cons_zero, Act.put, List.setIfInBounds_toArray, List.set_cons_succ, List.set_cons_zero, Nat.reduceAdd]
    refine wpAnyH_take (i := 12) (v := .pointer (some ⟨Bn, 3, none⟩)) rfl (by kernel_rfl) (by kernel_rfl) (by kernel_rfl) (fun _ _ _ h => h) (Or.inl ⟨by rfl, fun w' hS' => ?_⟩) s5 ?_
    · obtain ⟨q0, q1, q2, q3, q4, p0, p1, p2, p3, m0, m1⟩ := hS'
      go_simp
    simp only [List.getElem_toArray, List.getElem_cons_succ, List.getElem_cons_zero, Act.put, List.setIfInBounds_toArray, List.set_cons_succ, List.set_cons_zero, Nat.reduceAdd]
    refine wpAnyH_take (i := 13) (v := (.slice a2 n2' c2)) rfl (by kernel_rfl) (by kernel_rfl) (by kernel_rfl) (fun _ _ _ h => h) (Or.inl ⟨by rfl, fun w' hS' => ?_⟩) s5 ?_
    · obtain ⟨q0, q1, q2, q3, q4, p0, p1, p2, p3, m0, m1⟩ := hS'
      go_simp
    simp only [List.getElem_toArray, List.getElem_cons_succ, List.getElem_cons_zero, Act.put, List.setIfInBounds_toArray, List.set_cons_succ, List.set_cons_zero, Nat.reduceAdd]
    refine wpAnyH_take (i := 14) (v := .pointer (some ⟨w.heap.size, 4, none⟩)) rfl (by kernel_rfl) (by kernel_rfl) (by kernel_rfl) (fun _ _ _ h => h) (Or.inl ⟨by rfl, fun w' hS' => ?_⟩) s5 ?_
    · obtain ⟨q0, q1, q2, q3, q4, p0, p1, p2, p3, m0, m1⟩ := hS'
      go_simp
    simp only [List.getElem_toArray, List.getElem_cons_succ, List.getElem_cons_zero, Act.put, List.setIfInBounds_toArray, List.set_cons_succ, List.set_cons_zero, Nat.reduceAdd]
    refine wpAnyH_take (i := 15) (v := (.slice s.a1 d.pg.length s.c1)) rfl (by kernel_rfl) (by kernel_rfl) (by kernel_rfl) (fun _ _ _ h => h) (Or.inl ⟨by rfl, fun w' hS' => ?_⟩) s5 ?_
    · obtain ⟨q0, q1, q2, q3, q4, p0, p1, p2, p3, m0, m1⟩ := hS'
      go_simp
    simp only [List.getElem_toArray, List.getElem_cons_succ, List.getElem_cons_zero, Act.put, List.setIfInBounds_toArray, List.set_cons_succ, List.set_cons_zero, Nat.reduceAdd]
    refine wpAnyH_take (i := 16) (v := .pointer (some ⟨w.heap.size, 6, none⟩)) rfl (by kernel_rfl) (by kernel_rfl) (by kernel_rfl) (fun _ _ _ h => h) (Or.inl ⟨by rfl, fun w' hS' => ?_⟩) s5 ?_
    · obtain ⟨q0, q1, q2, q3, q4, p0, p1, p2, p3, m0, m1⟩ := hS'
      go_simp
    simp only [List.getElem_toArray, List.getElem_cons_succ, List.getElem_cons_zero, Act.put, List.setIfInBounds_toArray, List.set_cons_succ, List.set_cons_zero, Nat.reduceAdd]
    refine wpAnyH_take (i := 17) (v := (.slice s.a2 d.po.length s.c2)) rfl (by kernel_rfl) (by kernel_rfl) (by kernel_rfl) (fun _ _ _ h => h) (Or.inl ⟨by rfl, fun w' hS' => ?_⟩) s5 ?_
    · obtain ⟨q0, q1, q2, q3, q4, p0, p1, p2, p3, m0, m1⟩ := hS'
      go_simp
    simp only [List.getElem_toArray, List.getElem_cons_succ, List.getElem_cons_zero, Act.put, List.setIfInBounds_toArray, List.set_cons_succ, List.set_cons_zero, Nat.reduceAdd]
    have hW7 : Below W4.heap.size W4 (w5.alloc (.cells #[.slice s.a1 d.pg.length s.c1, .slice s.a2 d.po.length s.c2] 24)) := (show Below W4.heap.size W4 w5 from ⟨b5.os, b5.tape, b5.output, b5.size, b5.block⟩).trans ((K0.below_new w5 (.cells #[.slice s.a1 d.pg.length s.c1, .slice s.a2 d.po.length s.c2] 24)).mono b5.size)
    have l6 := l5.below (K0.below_new w5 (.cells #[.slice s.a1 d.pg.length s.c1, .slice s.a2 d.po.length s.c2] 24))
    have s6 : (fun W : World => W.cell? ⟨Bt, 0, none⟩ = some (.int .i64 k) ∧ W.cell? ⟨Bt, 1, none⟩ = some (.int .i64 o) ∧ W.cell? ⟨Bt, 2, none⟩ = some (.int .i64 t) ∧ W.cell? ⟨Bt, 3, none⟩ = some (.slice a n c) ∧ W.cell? ⟨Bt, 4, none⟩ = some (.slice ae ne ce) ∧ W.cell? ⟨Bn, 0, none⟩ = some (.int .i64 k2) ∧ W.cell? ⟨Bn, 1, none⟩ = some (.int .i64 o2) ∧ W.cell? ⟨Bn, 2, none⟩ = some (.int .i64 t2) ∧ W.cell? ⟨Bn, 3, none⟩ = some (.slice a2 n2' c2) ∧ W.cell? ⟨w.heap.size, 4, none⟩ = some (.slice s.a1 d.pg.length s.c1) ∧ W.cell? ⟨w.heap.size, 6, none⟩ = some (.slice s.a2 d.po.length s.c2)) (w5.alloc (.cells #[.slice s.a1 d.pg.length s.c1, .slice s.a2 d.po.length s.c2] 24)) := (by obtain ⟨v0, v1, v2, v3, v4⟩ := D3.cells5 l6.tb; obtain ⟨z0, z1, z2, z3, -, -⟩ := cells6 l6.nb; exact ⟨v0, v1, v2, v3, v4, z0, z1, z2, z3, l6.r.arg.c4, l6.r.arg.c6⟩)
    refine Y0.one_plain (i := 18) (u := .slice (some ⟨w5.heap.size, 0, none⟩) 2 2) (w' := w5.alloc (.cells #[.slice s.a1 d.pg.length s.c1, .slice s.a2 d.po.length s.c2] 24)) (by kernel_rfl) rfl (by rfl) ?_ s6 ?_
    · go_simp
    simp only [List.getElem_toArray, List.getElem_cons_succ, List.getElem_cons_zero, Act.put, List.setIfInBounds_toArray, List.set_cons_succ, List.set_cons_zero, Nat.reduceAdd]
    refine Y0.one_callw (i := 19) (by kernel_rfl) rfl (by rfl) (.tmp 48) _ rfl (.slice (some ⟨w5.heap.size, 0, none⟩) 2 2) (by rfl) (enters_of Tryz.func95 (by kernel_rfl) rfl) ((HCo.out w5 (l5.r.bel)).mono ?_)
    rintro e w7 ⟨a7, c7, rfl, ho7, hc7, b7⟩
    have l7 := l6.below b7
    have s7 : (fun W : World => W.cell? ⟨Bt, 0, none⟩ = some (.int .i64 k) ∧ W.cell? ⟨Bt, 1, none⟩ = some (.int .i64 o) ∧ W.cell? ⟨Bt, 2, none⟩ = some (.int .i64 t) ∧ W.cell? ⟨Bt, 3, none⟩ = some (.slice a n c) ∧ W.cell? ⟨Bt, 4, none⟩ = some (.slice ae ne ce) ∧ W.cell? ⟨Bn, 0, none⟩ = some (.int .i64 k2) ∧ W.cell? ⟨Bn, 1, none⟩ = some (.int .i64 o2) ∧ W.cell? ⟨Bn, 2, none⟩ = some (.int .i64 t2) ∧ W.cell? ⟨Bn, 3, none⟩ = some (.slice a2 n2' c2) ∧ W.cell? ⟨w.heap.size, 4, none⟩ = some (.slice s.a1 d.pg.length s.c1) ∧ W.cell? ⟨w.heap.size, 6, none⟩ = some (.slice s.a2 d.po.length s.c2)) (w7) := (by obtain ⟨v0, v1, v2, v3, v4⟩ := D3.cells5 l7.tb; obtain ⟨z0, z1, z2, z3, -, -⟩ := cells6 l7.nb; exact ⟨v0, v1, v2, v3, v4, z0, z1, z2, z3, l7.r.arg.c4, l7.r.arg.c6⟩)
    refine ⟨_, rfl, s7, ?_⟩
    simp only [List.getElem_toArray, List.getElem_cons_succ, List.getElem_cons_zero, Act.put, List.setIfInBounds_toArray, List.set_cons_succ, List.set_cons_zero, Nat.reduceAdd]
    refine Y0.one_call2w (i := 20) (by kernel_rfl) rfl (by rfl) (.tmp 43) (.tmp 49) _ rfl ((.slice a2 n2' c2)) (.slice a7 (d.pg ++ d.po).length c7) (by rfl) (by rfl) (enters_of Tryz.func94 (by kernel_rfl) rfl) ((HAm.out w7 a7 c7 (Below.trans hW7 (b7.mono hW7.size)) ho7.row).mono ?_)
    rintro e w8 ⟨rfl, e8⟩
    subst w8
    refine ⟨_, rfl, s7, ?_⟩
    simp only [List.getElem_toArray, List.getElem_cons_succ, List.getElem_cons_zero, Act.put, List.setIfInBounds_toArray, List.set_cons_succ, List.set_cons_zero, Nat.reduceAdd]
    refine wpAnyH_take (i := 21) (v := .bool false) rfl (by kernel_rfl) (by kernel_rfl) (by kernel_rfl) (fun _ _ _ h => h) (Or.inl ⟨by rfl, fun w' hS' => by rfl⟩) s7 ?_
    simp only [List.getElem_toArray, List.getElem_cons_succ, List.getElem_cons_zero, Act.put, List.setIfInBounds_toArray, List.set_cons_succ, List.set_cons_zero, Nat.reduceAdd]
    refine wpAnyH_take (i := 22) (v := .bool false) rfl (by kernel_rfl) (by kernel_rfl) (by kernel_rfl) (fun _ _ _ h => h) (Or.inl ⟨by rfl, fun w' hS' => by rfl⟩) s7 ?_
    simp only [List.getElem_toArray, List.getElem_cons_succ, List.getElem_cons_zero, Act.put, List.setIfInBounds_toArray, List.set_cons_succ, List.set_cons_zero, Nat.reduceAdd]
    refine wpAnyH_done (by kernel_rfl) ?_ _
    have l9 := l7.below (W' := w7.drew) ((Below.refl _ _).drew)
    have hEW : Below W4.heap.size W4 w7.drew := (hW7.trans (b7.mono hW7.size)).trans (((Below.refl _ _).drew).mono (Nat.le_trans hW7.size b7.size))
    go_wp2
    have s9 : (fun W : World => W.cell? ⟨Bt, 0, none⟩ = some (.int .i64 k) ∧ W.cell? ⟨Bt, 1, none⟩ = some (.int .i64 o) ∧ W.cell? ⟨Bt, 2, none⟩ = some (.int .i64 t) ∧ W.cell? ⟨Bt, 3, none⟩ = some (.slice a n c) ∧ W.cell? ⟨Bt, 4, none⟩ = some (.slice ae ne ce) ∧ W.cell? ⟨Bt, 5, none⟩ = some (.int .i64 d.ino) ∧ W.cell? ⟨Bt, 6, none⟩ = some (.int .i64 d.cl) ∧ W.cell? ⟨Bt, 7, none⟩ = some (.int .i64 d.un) ∧ W.cell? ⟨Bt, 8, none⟩ = some (.string d.rc) ∧ W.cell? ⟨Bt, 9, none⟩ = some (.slice s.a1 d.pg.length s.c1) ∧ W.cell? ⟨Bt, 10, none⟩ = some (.string d.sav) ∧ W.cell? ⟨Bt, 11, none⟩ = some (.slice s.a2 d.po.length s.c2) ∧ W.cell? ⟨Bt, 12, none⟩ = some (.slice s.a3 d.fr.length s.c3) ∧ W.cell? ⟨Bn, 0, none⟩ = some (.int .i64 k2) ∧ W.cell? ⟨Bn, 1, none⟩ = some (.int .i64 o2) ∧ W.cell? ⟨Bn, 2, none⟩ = some (.int .i64 t2) ∧ W.cell? ⟨Bn, 3, none⟩ = some ((.slice a2 n2' c2)) ∧ W.cell? ⟨Bn, 4, none⟩ = some (.string x2) ∧ W.cell? ⟨Bn, 5, none⟩ = some ((.slice ae2 ne2 ce2))) (w7.drew) := (by obtain ⟨v0, v1, v2, v3, v4, v5, v6, v7, v8, v9, v10, v11, v12⟩ := cells13 (l9.tb); obtain ⟨z0, z1, z2, z3, z4, z5⟩ := cells6 (l9.nb); exact ⟨v0, v1, v2, v3, v4, v5, v6, v7, v8, v9, v10, v11, v12, z0, z1, z2, z3, z4, z5⟩)
    refine wp_region_held (S := fun W => W.cell? ⟨Bt, 0, none⟩ = some (.int .i64 k) ∧ W.cell? ⟨Bt, 1, none⟩ = some (.int .i64 o) ∧ W.cell? ⟨Bt, 2, none⟩ = some (.int .i64 t) ∧ W.cell? ⟨Bt, 3, none⟩ = some (.slice a n c) ∧ W.cell? ⟨Bt, 4, none⟩ = some (.slice ae ne ce) ∧ W.cell? ⟨Bt, 5, none⟩ = some (.int .i64 d.ino) ∧ W.cell? ⟨Bt, 6, none⟩ = some (.int .i64 d.cl) ∧ W.cell? ⟨Bt, 7, none⟩ = some (.int .i64 d.un) ∧ W.cell? ⟨Bt, 8, none⟩ = some (.string d.rc) ∧ W.cell? ⟨Bt, 9, none⟩ = some (.slice s.a1 d.pg.length s.c1) ∧ W.cell? ⟨Bt, 10, none⟩ = some (.string d.sav) ∧ W.cell? ⟨Bt, 11, none⟩ = some (.slice s.a2 d.po.length s.c2) ∧ W.cell? ⟨Bt, 12, none⟩ = some (.slice s.a3 d.fr.length s.c3) ∧ W.cell? ⟨Bn, 0, none⟩ = some (.int .i64 k2) ∧ W.cell? ⟨Bn, 1, none⟩ = some (.int .i64 o2) ∧ W.cell? ⟨Bn, 2, none⟩ = some (.int .i64 t2) ∧ W.cell? ⟨Bn, 3, none⟩ = some ((.slice a2 n2' c2)) ∧ W.cell? ⟨Bn, 4, none⟩ = some (.string x2) ∧ W.cell? ⟨Bn, 5, none⟩ = some ((.slice ae2 ne2 ce2))) (by kernel_rfl) ?_
    refine wpAnyH_take (i := 0) (v := tv k o t a n c ae ne ce d s) rfl (by kernel_rfl) (by kernel_rfl) (by kernel_rfl) (fun _ _ _ h => h) (Or.inl ⟨by rfl, fun w' hS' => ?_⟩) s9 ?_
    · obtain ⟨q0, q1, q2, q3, q4, q5, q6, q7, q8, q9, q10, q11, q12, p0, p1, p2, p3, p4, p5⟩ := hS'
      go_simp
    simp only [List.getElem_toArray, List.getElem_cons_succ, List.getElem_cons_zero, Act.put, List.setIfInBounds_toArray, List.set_cons_succ, List.set_cons_zero, Nat.reduceAdd]
    refine wpAnyH_take (i := 1) (v := .pointer (some ⟨Bn, 5, none⟩)) rfl (by kernel_rfl) (by kernel_rfl) (by kernel_rfl) (fun _ _ _ h => h) (Or.inl ⟨by rfl, fun w' hS' => ?_⟩) s9 ?_
    · obtain ⟨q0, q1, q2, q3, q4, q5, q6, q7, q8, q9, q10, q11, q12, p0, p1, p2, p3, p4, p5⟩ := hS'
      go_simp
    simp only [List.getElem_toArray, List.getElem_cons_succ, List.getElem_cons_zero, Act.put, List.setIfInBounds_toArray, List.set_cons_succ, List.set_cons_zero, Nat.reduceAdd]
    refine wpAnyH_take (i := 2) (v := (.slice ae2 ne2 ce2)) rfl (by kernel_rfl) (by kernel_rfl) (by kernel_rfl) (fun _ _ _ h => h) (Or.inl ⟨by rfl, fun w' hS' => ?_⟩) s9 ?_
    · obtain ⟨q0, q1, q2, q3, q4, q5, q6, q7, q8, q9, q10, q11, q12, p0, p1, p2, p3, p4, p5⟩ := hS'
      go_simp
    simp only [List.getElem_toArray, List.getElem_cons_succ, List.getElem_cons_zero, Act.put, List.setIfInBounds_toArray, List.set_cons_succ, List.set_cons_zero, Nat.reduceAdd]
    refine wpAnyH_take (i := 3) (v := tv k o t a n c ae ne ce d s) rfl (by kernel_rfl) (by kernel_rfl) (by kernel_rfl) (fun _ _ _ h => h) (Or.inl ⟨by rfl, fun w' hS' => ?_⟩) s9 ?_
    · obtain ⟨q0, q1, q2, q3, q4, q5, q6, q7, q8, q9, q10, q11, q12, p0, p1, p2, p3, p4, p5⟩ := hS'
      go_simp
    simp only [List.getElem_toArray, List.getElem_cons_succ, List.getElem_cons_zero, Act.put, List.setIfInBounds_toArray, List.set_cons_succ, List.set_cons_zero, Nat.reduceAdd]
    refine wpAnyH_take (i := 4) (v := .string mem) rfl (by kernel_rfl) (by kernel_rfl) (by kernel_rfl) (fun _ _ _ h => h) (Or.inl ⟨by rfl, fun w' hS' => by rfl⟩) s9 ?_
    simp only [List.getElem_toArray, List.getElem_cons_succ, List.getElem_cons_zero, Act.put, List.setIfInBounds_toArray, List.set_cons_succ, List.set_cons_zero, Nat.reduceAdd]
    refine wpAnyH_take (i := 5) (v := nv k2 o2 t2 a2 n2' c2 x2 ae2 ne2 ce2) rfl (by kernel_rfl) (by kernel_rfl) (by kernel_rfl) (fun _ _ _ h => h) (Or.inl ⟨by rfl, fun w' hS' => ?_⟩) s9 ?_
    · obtain ⟨q0, q1, q2, q3, q4, q5, q6, q7, q8, q9, q10, q11, q12, p0, p1, p2, p3, p4, p5⟩ := hS'
      go_simp
    simp only [List.getElem_toArray, List.getElem_cons_succ, List.getElem_cons_zero, Act.put, List.setIfInBounds_toArray, List.set_cons_succ, List.set_cons_zero, Nat.reduceAdd]
    refine Y0.one_call3w (i := 6) (by kernel_rfl) rfl (by rfl) (.tmp 57) (.tmp 58) (.tmp 59) _ rfl (tv k o t a n c ae ne ce d s) (.string mem) (nv k2 o2 t2 a2 n2' c2 x2 ae2 ne2 ce2) (by rfl) (by rfl) (by rfl) (enters_of Tryz.func96 (by kernel_rfl) rfl) ((HEn.out _ hEW).mono ?_)
    rintro e wa ⟨rfl, ba⟩
    have la := l9.below ba
    obtain ⟨i0, i1, i2, i3, i4, i5, i6, i7, i8, i9, i10, i11, i12⟩ := cells13 la.r.res
    obtain ⟨j0, j1, j2, j3, j4, j5, j6, j7, j8, j9, j10, j11, j12⟩ := free13 la.r.res
    have sa : (fun W : World => W.cell? ⟨Bt, 0, none⟩ = some (.int .i64 k) ∧ W.cell? ⟨Bt, 1, none⟩ = some (.int .i64 o) ∧ W.cell? ⟨Bt, 2, none⟩ = some (.int .i64 t) ∧ W.cell? ⟨Bt, 3, none⟩ = some (.slice a n c) ∧ W.cell? ⟨Bt, 4, none⟩ = some (.slice ae ne ce) ∧ W.cell? ⟨Bt, 5, none⟩ = some (.int .i64 d.ino) ∧ W.cell? ⟨Bt, 6, none⟩ = some (.int .i64 d.cl) ∧ W.cell? ⟨Bt, 7, none⟩ = some (.int .i64 d.un) ∧ W.cell? ⟨Bt, 8, none⟩ = some (.string d.rc) ∧ W.cell? ⟨Bt, 9, none⟩ = some (.slice s.a1 d.pg.length s.c1) ∧ W.cell? ⟨Bt, 10, none⟩ = some (.string d.sav) ∧ W.cell? ⟨Bt, 11, none⟩ = some (.slice s.a2 d.po.length s.c2) ∧ W.cell? ⟨Bt, 12, none⟩ = some (.slice s.a3 d.fr.length s.c3) ∧ W.cell? ⟨Bn, 0, none⟩ = some (.int .i64 k2) ∧ W.cell? ⟨Bn, 1, none⟩ = some (.int .i64 o2) ∧ W.cell? ⟨Bn, 2, none⟩ = some (.int .i64 t2) ∧ W.cell? ⟨Bn, 3, none⟩ = some ((.slice a2 n2' c2)) ∧ W.cell? ⟨Bn, 4, none⟩ = some (.string x2) ∧ W.cell? ⟨Bn, 5, none⟩ = some ((.slice ae2 ne2 ce2))) (wa) := (by obtain ⟨v0, v1, v2, v3, v4, v5, v6, v7, v8, v9, v10, v11, v12⟩ := cells13 (la.tb); obtain ⟨z0, z1, z2, z3, z4, z5⟩ := cells6 (la.nb); exact ⟨v0, v1, v2, v3, v4, v5, v6, v7, v8, v9, v10, v11, v12, z0, z1, z2, z3, z4, z5⟩)
    have sb : (fun W : World => W.cell? ⟨Bt, 0, none⟩ = some (.int .i64 k) ∧ W.cell? ⟨Bt, 1, none⟩ = some (.int .i64 o) ∧ W.cell? ⟨Bt, 2, none⟩ = some (.int .i64 t) ∧ W.cell? ⟨Bt, 3, none⟩ = some (.slice a n c) ∧ W.cell? ⟨Bt, 4, none⟩ = some (.slice ae ne ce) ∧ W.cell? ⟨Bt, 5, none⟩ = some (.int .i64 d.ino) ∧ W.cell? ⟨Bt, 6, none⟩ = some (.int .i64 d.cl) ∧ W.cell? ⟨Bt, 7, none⟩ = some (.int .i64 d.un) ∧ W.cell? ⟨Bt, 8, none⟩ = some (.string d.rc) ∧ W.cell? ⟨Bt, 9, none⟩ = some (.slice s.a1 d.pg.length s.c1) ∧ W.cell? ⟨Bt, 10, none⟩ = some (.string d.sav) ∧ W.cell? ⟨Bt, 11, none⟩ = some (.slice s.a2 d.po.length s.c2) ∧ W.cell? ⟨Bt, 12, none⟩ = some (.slice s.a3 d.fr.length s.c3) ∧ W.cell? ⟨Bn, 0, none⟩ = some (.int .i64 k2) ∧ W.cell? ⟨Bn, 1, none⟩ = some (.int .i64 o2) ∧ W.cell? ⟨Bn, 2, none⟩ = some (.int .i64 t2) ∧ W.cell? ⟨Bn, 3, none⟩ = some ((.slice a2 n2' c2)) ∧ W.cell? ⟨Bn, 4, none⟩ = some (.string x2) ∧ W.cell? ⟨Bn, 5, none⟩ = some ((.slice ae2 ne2 ce2))) (W13 wa (w.heap.size + 1) (.int .i64 k) (.int .i64 o) (.int .i64 t) (.slice a n c) (.slice ae ne ce) (.int .i64 d.ino) (.int .i64 d.cl) (.int .i64 d.un) (.string d.rc) (.slice s.a1 d.pg.length s.c1) (.string d.sav) (.slice s.a2 d.po.length s.c2) (.slice s.a3 d.fr.length s.c3)) := (by obtain ⟨v0, v1, v2, v3, v4, v5, v6, v7, v8, v9, v10, v11, v12⟩ := cells13 (other13 la.tb (B := w.heap.size + 1) (by have := la.lt; omega) (.int .i64 k) (.int .i64 o) (.int .i64 t) (.slice a n c) (.slice ae ne ce) (.int .i64 d.ino) (.int .i64 d.cl) (.int .i64 d.un) (.string d.rc) (.slice s.a1 d.pg.length s.c1) (.string d.sav) (.slice s.a2 d.po.length s.c2) (.slice s.a3 d.fr.length s.c3)); obtain ⟨z0, z1, z2, z3, z4, z5⟩ := cells6 (other13 la.nb (B := w.heap.size + 1) (by have := la.lt; omega) (.int .i64 k) (.int .i64 o) (.int .i64 t) (.slice a n c) (.slice ae ne ce) (.int .i64 d.ino) (.int .i64 d.cl) (.int .i64 d.un) (.string d.rc) (.slice s.a1 d.pg.length s.c1) (.string d.sav) (.slice s.a2 d.po.length s.c2) (.slice s.a3 d.fr.length s.c3)); exact ⟨v0, v1, v2, v3, v4, v5, v6, v7, v8, v9, v10, v11, v12, z0, z1, z2, z3, z4, z5⟩)
    refine ⟨_, rfl, sa, ?_⟩
    simp only [List.getElem_toArray, List.getElem_cons_succ, List.getElem_cons_zero, Act.put, List.setIfInBounds_toArray, List.set_cons_succ, List.set_cons_zero, Nat.reduceAdd]
    refine Y0.one_skip (i := 7) (w' := W13 wa (w.heap.size + 1) (.int .i64 k) (.int .i64 o) (.int .i64 t) (.slice a n c) (.slice ae ne ce) (.int .i64 d.ino) (.int .i64 d.cl) (.int .i64 d.un) (.string d.rc) (.slice s.a1 d.pg.length s.c1) (.string d.sav) (.slice s.a2 d.po.length s.c2) (.slice s.a3 d.fr.length s.c3)) (by kernel_rfl) rfl (by rfl) ?_ sb ?_
    · go_simp
    simp only [List.getElem_toArray, List.getElem_cons_succ, List.getElem_cons_zero, Act.put, List.setIfInBounds_toArray, List.set_cons_succ, List.set_cons_zero, Nat.reduceAdd]
    refine wpAnyH_take (i := 8) (v := (.slice ae2 ne2 ce2)) rfl (by kernel_rfl) (by kernel_rfl) (by kernel_rfl) (fun _ _ _ h => h) (Or.inl ⟨by rfl, fun w' hS' => by rfl⟩) sb ?_
    simp only [List.getElem_toArray, List.getElem_cons_succ, List.getElem_cons_zero, Act.put, List.setIfInBounds_toArray, List.set_cons_succ, List.set_cons_zero, Nat.reduceAdd]
    refine wpAnyH_take (i := 9) (v := .bool eb) rfl (by kernel_rfl) (by kernel_rfl) (by kernel_rfl) (fun _ _ _ h => h) (Or.inl ⟨by rfl, fun w' hS' => by rfl⟩) sb ?_
    simp only [List.getElem_toArray, List.getElem_cons_succ, List.getElem_cons_zero, Act.put, List.setIfInBounds_toArray, List.set_cons_succ, List.set_cons_zero, Nat.reduceAdd]
    refine wpAnyH_done (by kernel_rfl) ?_ _
    obtain ⟨u0, u1, u2, u3, u4, u5, u6, u7, u8, u9, u10, u11, u12⟩ := cells13 (put13 la.r.res (.int .i64 k) (.int .i64 o) (.int .i64 t) (.slice a n c) (.slice ae ne ce) (.int .i64 d.ino) (.int .i64 d.cl) (.int .i64 d.un) (.string d.rc) (.slice s.a1 d.pg.length s.c1) (.string d.sav) (.slice s.a2 d.po.length s.c2) (.slice s.a3 d.fr.length s.c3))
    go_wp2
    refine bodyPost_ret (v := .tuple #[tv k o t a n c ae ne ce d s, .slice ae2 ne2 ce2, .bool eb]) (by simp [results, Tryz.results60, go_sem, u0, u1, u2, u3, u4, u5, u6, u7, u8, u9, u10, u11, u12]) rfl ?_
    exact HFin.out wa (hEW.trans (ba.mono hEW.size)) (bel13 la.r.bel (by omega) _ _ _ _ _ _ _ _ _ _ _ _ _)
end Go.Proofs.YtddlpejklpljoaaGreat.D6
