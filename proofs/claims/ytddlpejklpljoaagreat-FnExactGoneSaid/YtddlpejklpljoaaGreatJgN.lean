/- Joined texts: plain facts and contracts, as each part says. -/
import Derived.Test.YtddlpejklpljoaaGreatJgM
import Derived.Deep.RegionLaw

/- The contract of spec.l04Add where all are less, and of spec.l05Only, as the given laws call them. -/
namespace Go.Proofs.YtddlpejklpljoaaGreat.Y2
open Go.ChangeShapes Go.WideShapes Go.ChangeAt Go.RowKit
set_option linter.unusedVariables false
set_option linter.unusedSimpArgs false
set_option maxRecDepth 10000

open J0 (IBuf Own)
open I2 (ints)

/-- 'append(list, others...)' as a step of a region that draws its order. -/
theorem step_rows {base n cp : Nat} {p : Option Addr} {W : World} {zs : List Int} {ops : Array Oper} {o : Oper} {A : Act} {K : Act → World → Prop} {Q : Exit → Act → World → Prop} {E : Prop} (hgd : o.guard = none) (sl x : Operand)
    (ho : o.op = .call { callee := .builtin .append, args := #[sl, x], argTypes := #[24, 24] })
    (hbuf : IBuf base W p n cp zs) (ax : Option Addr) (cx : Nat) (xs : List Int) (hs : A.eval sl = .slice p n cp) (hx : A.eval x = .slice ax xs.length cx) (hR : P0.Row W ax xs) (hlen : n + xs.length ≤ 4194304) (hb : base ≤ W.heap.size)
    (h : ∀ a' cap' w', IBuf base w' a' (n + xs.length) cap' (zs ++ xs) → W.grownBy w' (Value.slice p n cp).ownBlock → K (A.put o.dst (.slice a' (n + xs.length) cap')) w') :
    if Region.wanted o (yielded ops A.tmps) = true then Oper.wp Tryz.prog o A W K Q else E := by
  have hw : Region.wanted o (yielded ops A.tmps) = true := by simp [Region.wanted, hgd]
  rw [if_pos hw]
  obtain ⟨a', cap', w', hrun, r1, r2, r3⟩ := D7.run_rows o.type hbuf ax cx xs hR hlen hb
  exact Lib.wp_append_run _ sl x 24 24 ho _ _ hs hx _ _ hrun (h a' cap' w' r1 r2)

theorem row_grown {W W' : World} {ax : Option Addr} {xs : List Int} {r : Option Nat} (h : P0.Row W ax xs) (hg : W.grownBy W' r) (hne : ∀ p, ax = some p → r ≠ some p.block) : P0.Row W' ax xs := by
  rcases h with h | ⟨b, off, rfl, hlt, hc⟩
  · exact Or.inl h
  · have hb : W'.heap[b]? = W.heap[b]? := hg.block b hlt (fun q => hne _ rfl q.symm)
    exact Or.inr ⟨b, off, rfl, Nat.lt_of_lt_of_le hlt hg.size, fun j hj => (World.cell?_of_block (a := ⟨b, off + j, none⟩) hb).trans (hc j hj)⟩

set_option maxHeartbeats 2000000 in
theorem l04Add (g off c : Nat) (zs : List Int) (x : Int) (w : World) (hn : zs.length ≤ 1048576) (hc : zs.length ≤ c) (hR : P0.Row w (some ⟨g, off, none⟩) zs) (hx : ∀ j, j < zs.length → zs.getD j 0 < x) :
    Calls Tryz.prog 101 #[.slice (some ⟨g, off, none⟩) zs.length c, .int .i64 x] w fun e w' => ∃ a' c', e = .returned (.slice a' (zs ++ [x]).length c') ∧ IBuf w.heap.size w' a' (zs ++ [x]).length c' (zs ++ [x]) ∧ Below w.heap.size w w' := by
  go_enter Tryz.func101, Tryz.ntmps101
  go_wp2
  go_loop [5] (fun i => ∃ k : Nat, k ≤ zs.length ∧ i = .int .i64 k) (fun i => zs.length - (intOf i).toNat)
  case atStart => exact ⟨0, Nat.zero_le _, rfl⟩
  case round =>
    obtain ⟨k, hk, rfl⟩ := hrel
    by_cases hlt : k < zs.length
    · obtain ⟨b, of2, hab, _, hcl⟩ := hR.get hlt
      cases hab
      have x1 := hcl k hlt
      have x2 := hx k hlt
      obtain ⟨z, ez⟩ : ∃ z, zs.getD k 0 = z := ⟨_, rfl⟩
      rw [ez] at x1 x2
      have e1 : (0 : Int) ≤ (k : Int) := by omega
      have e2 : (k : Int) < (zs.length : Int) := by omega
      clear ez hcl hx hR
      go_wp2
      go_round
      case rel => exact ⟨k + 1, by omega, by go_num⟩
      case measure => simp [intOf]; omega
    · obtain rfl : k = zs.length := by omega
      have e9 : decide ((zs.length : Int) < (zs.length : Int)) = false := by simp
      have e1 : (0 : Int) ≤ (zs.length : Int) := by omega
      have e2 : (zs.length : Int) ≤ (c : Int) := by omega
      obtain ⟨E, hE⟩ : ∃ E, Obj.cells #[] 3 = E := ⟨_, rfl⟩
      obtain ⟨X, hX⟩ : ∃ X, Obj.cells #[.int .i64 x] 3 = X := ⟨_, rfl⟩
      have L0 : Below w.heap.size w w.drew := (Below.refl _ _).drew
      have L1 := L0.alloc L0.size (.cells #[] 3)
      have L2 := L1.alloc L1.size (.cells #[.int .i64 x] 3)
      have M1 := L0.alloc L0.size (.cells #[.int .i64 x] 3)
      have L3 := M1.alloc M1.size (.cells #[] 3)
      have B1 := J0.ibuf_made w.drew L0.size
      have B2 := B1.alloc (.cells #[.int .i64 x] 3)
      have B3 := J0.ibuf_made (w.drew.alloc (.cells #[.int .i64 x] 3)) M1.size
      have X2 := Y1.row_one (w.drew.alloc (.cells #[] 3)) x
      have X3 := (Y1.row_one w.drew x).alloc (.cells #[] 3)
      have hq : zs.length + 1 ≤ 4194304 := by omega
      clear hE hX E X
      by_cases hcn : c = zs.length
      · subst c
        clear hx hlt hk hc
        go_wp2
        go_region_law (first
          | (refine step_rows rfl (.tmp 27) (.tmp 30) rfl f8 (some ⟨g, off, none⟩) (0) [] (by simp [Act.eval, Act.put]) (by simp [Act.eval, Act.put]) (Or.inl rfl) (by simp only [List.length_cons, List.length_nil]; omega) l8.size ?_; intro a9 c9 w9 f9 g9; have l9 := l8.trans (D7.run_below f8 l8.size g9))
          | (refine step_rows rfl (.tmp 24) (.tmp 26) rfl f7 _ _ [x] (by simp [Act.eval, Act.put]) (by simp [Act.eval, Act.put]; rfl) x7 (by simp only [List.length_cons, List.length_nil]; omega) l7.size ?_; intro a8 c8 w8 f8 g8; have l8 := l7.trans (D7.run_below f7 l7.size g8))
          | (refine step_rows rfl (.tmp 24) (.tmp 26) rfl (f7.alloc (.cells #[.int .i64 x] 3)) (some ⟨w7.heap.size, 0, none⟩) 1 [x] (by simp [Act.eval, Act.put]) (by simp [Act.eval, Act.put]) (Y1.row_one w7 x) (by simp only [List.length_cons, List.length_nil]; omega) (l7.alloc l7.size _).size ?_; intro a8 c8 w8 f8 g8; have l8 := (l7.alloc l7.size (.cells #[.int .i64 x] 3)).trans (D7.run_below (f7.alloc (.cells #[.int .i64 x] 3)) (l7.alloc l7.size (.cells #[.int .i64 x] 3)).size g8))
          | (refine step_rows rfl (.tmp 20) (.tmp 23) rfl B1 (some ⟨g, off, none⟩) zs.length zs (by simp [Act.eval, Act.put]) (by simp [Act.eval, Act.put]) (hR.below L1) (by omega) L1.size ?_; intro a7 c7 w7 f7 g7; have l7 := L1.trans (D7.run_below B1 L1.size g7))
          | (refine step_rows rfl (.tmp 20) (.tmp 23) rfl B2 (some ⟨g, off, none⟩) zs.length zs (by simp [Act.eval, Act.put]) (by simp [Act.eval, Act.put]) (hR.below L2) (by omega) L2.size ?_; intro a7 c7 w7 f7 g7; have l7 := L2.trans (D7.run_below B2 L2.size g7); have x7 := row_grown X2 g7 (by rintro p ⟨⟩ h; simp [Value.ownBlock] at h))
          | (refine step_rows rfl (.tmp 20) (.tmp 23) rfl B3 (some ⟨g, off, none⟩) zs.length zs (by simp [Act.eval, Act.put]) (by simp [Act.eval, Act.put]) (hR.below L3) (by omega) L3.size ?_; intro a7 c7 w7 f7 g7; have l7 := L3.trans (D7.run_below B3 L3.size g7); have x7 := row_grown X3 g7 (by rintro p ⟨⟩ h; simp [Value.ownBlock] at h)))
        all_goals
          go_wp2
          go_ret
          exact ⟨a9, c9, by rw [List.length_append]; rfl, by simpa using f9, l9⟩
      · clear hx hlt hk
        go_wp2
        go_region_law (first
          | (refine step_rows rfl (.tmp 27) (.tmp 30) rfl f8 (some ⟨g, off + zs.length, none⟩) (c - zs.length) [] (by simp [Act.eval, Act.put]) (by simp [Act.eval, Act.put]) (Or.inl rfl) (by simp only [List.length_cons, List.length_nil]; omega) l8.size ?_; intro a9 c9 w9 f9 g9; have l9 := l8.trans (D7.run_below f8 l8.size g9))
          | (refine step_rows rfl (.tmp 24) (.tmp 26) rfl f7 _ _ [x] (by simp [Act.eval, Act.put]) (by simp [Act.eval, Act.put]; rfl) x7 (by simp only [List.length_cons, List.length_nil]; omega) l7.size ?_; intro a8 c8 w8 f8 g8; have l8 := l7.trans (D7.run_below f7 l7.size g8))
          | (refine step_rows rfl (.tmp 24) (.tmp 26) rfl (f7.alloc (.cells #[.int .i64 x] 3)) (some ⟨w7.heap.size, 0, none⟩) 1 [x] (by simp [Act.eval, Act.put]) (by simp [Act.eval, Act.put]) (Y1.row_one w7 x) (by simp only [List.length_cons, List.length_nil]; omega) (l7.alloc l7.size _).size ?_; intro a8 c8 w8 f8 g8; have l8 := (l7.alloc l7.size (.cells #[.int .i64 x] 3)).trans (D7.run_below (f7.alloc (.cells #[.int .i64 x] 3)) (l7.alloc l7.size (.cells #[.int .i64 x] 3)).size g8))
          | (refine step_rows rfl (.tmp 20) (.tmp 23) rfl B1 (some ⟨g, off, none⟩) c zs (by simp [Act.eval, Act.put]) (by simp [Act.eval, Act.put]) (hR.below L1) (by omega) L1.size ?_; intro a7 c7 w7 f7 g7; have l7 := L1.trans (D7.run_below B1 L1.size g7))
          | (refine step_rows rfl (.tmp 20) (.tmp 23) rfl B2 (some ⟨g, off, none⟩) c zs (by simp [Act.eval, Act.put]) (by simp [Act.eval, Act.put]) (hR.below L2) (by omega) L2.size ?_; intro a7 c7 w7 f7 g7; have l7 := L2.trans (D7.run_below B2 L2.size g7); have x7 := row_grown X2 g7 (by rintro p ⟨⟩ h; simp [Value.ownBlock] at h))
          | (refine step_rows rfl (.tmp 20) (.tmp 23) rfl B3 (some ⟨g, off, none⟩) c zs (by simp [Act.eval, Act.put]) (by simp [Act.eval, Act.put]) (hR.below L3) (by omega) L3.size ?_; intro a7 c7 w7 f7 g7; have l7 := L3.trans (D7.run_below B3 L3.size g7); have x7 := row_grown X3 g7 (by rintro p ⟨⟩ h; simp [Value.ownBlock] at h)))
        all_goals
          go_wp2
          go_ret
          exact ⟨a9, c9, by rw [List.length_append]; rfl, by simpa using f9, l9⟩

theorem ibuf_mono {base base' n c : Nat} {a : Option Addr} {w : World} {zs : List Int} (h : IBuf base w a n c zs) (hb : base' ≤ base) : IBuf base' w a n c zs := by
  refine ⟨h.1, h.2.1, ?_⟩
  rcases h.2.2 with h0 | ⟨g, cap, cur, hv, hg, r⟩
  · exact Or.inl h0
  · exact Or.inr ⟨g, cap, cur, hv, Nat.le_trans hb hg, r⟩

theorem only_lt {zs al : List Int} (h : N0.asc zs = true) {k : Nat} (hk : k < zs.length) : ∀ j, j < (Y1.only (zs.take k) al).length → (Y1.only (zs.take k) al).getD j 0 < zs.getD k 0 := by
  intro j hj
  have hm := (List.mem_filter.1 (N0.getD_mem hj)).1
  obtain ⟨i, hi, e⟩ := List.mem_take_iff_getElem.1 hm
  show (List.filter (P0.has al) (List.take k zs)).getD j 0 < _
  rw [← e, P0.getD_get _ _ hk]
  exact List.pairwise_iff_getElem.1 (N0.asc_iff.1 h) i k (by omega) hk (by omega)

set_option maxHeartbeats 1000000 in
theorem l05Only (a1 a2 : Option Addr) (c1 c2 : Nat) (zs al : List Int) (w : World) (h1 : zs.length ≤ 1048576) (h2 : al.length ≤ 281474976710656) (hasc : N0.asc zs = true) (R1 : P0.Row w a1 zs) (R2 : P0.Row w a2 al) :
    Calls Tryz.prog 68 #[.slice a1 zs.length c1, .slice a2 al.length c2, .bool true] w fun e w' => ∃ a c, e = .returned (.slice a (Y1.only zs al).length c) ∧ (Y1.only zs al).length ≤ c ∧ Own w.heap.size w' a (Y1.only zs al) ∧ Below w.heap.size w w' := by
  have b0 := J0.ibuf_made w (Nat.le_refl _)
  have l0 := K0.below_new w (.cells #[] 3)
  go_enter Tryz.func68, Tryz.ntmps68
  go_wp2
  go_loopw [7, 8] (fun v i w' => ∃ (k n c g : Nat), k ≤ zs.length ∧ i = .int .i64 k ∧ v = .slice (some ⟨g, 0, none⟩) n c ∧ IBuf w.heap.size w' (some ⟨g, 0, none⟩) n c (Y1.only (zs.take k) al) ∧ Below w.heap.size w w') (fun _ i _ => zs.length - (intOf i).toNat)
  case atStart => exact ⟨0, 0, 0, _, Nat.zero_le _, rfl, rfl, b0, l0⟩
  case round =>
    obtain ⟨k, n, c', g, hk, rfl, rfl, hbuf, hbel⟩ := hrel
    clear b0 l0
    by_cases hlt : k < zs.length
    · obtain ⟨b, off, hab, _, hc⟩ := (R1.below hbel).get hlt
      have x1 := hc k hlt
      have hyes := fun h => Y1.only_yes (zs := zs) (al := al) hlt h
      have hno := fun h => Y1.only_no (zs := zs) (al := al) hlt h
      have hln := Y1.only_len zs al k
      have hlt2 := only_lt (al := al) hasc hlt
      obtain ⟨z, ez⟩ : ∃ z, zs.getD k 0 = z := ⟨_, rfl⟩
      rw [ez] at x1 hyes hno hlt2
      have hH : Hid (Calls Tryz.prog 55 #[.slice a2 al.length c2, .int .i64 z] wr fun e w' => e = .returned (.bool (P0.has al z)) ∧ w' = wr) := N2.hasRow a2 c2 al z wr h2 (R2.below hbel)
      obtain ⟨O, hO⟩ : ∃ O, Y1.only (zs.take k) al = O := ⟨_, rfl⟩
      rw [hO] at hbuf hyes hno hln hlt2
      obtain rfl : n = O.length := hbuf.1
      have hA : Hid (Calls Tryz.prog 101 #[.slice (some ⟨g, 0, none⟩) O.length c', .int .i64 z] wr fun e w' => ∃ a' c', e = .returned (.slice a' (O ++ [z]).length c') ∧ IBuf wr.heap.size w' a' (O ++ [z]).length c' (O ++ [z]) ∧ Below wr.heap.size wr w') := l04Add g 0 c' O z wr (by omega) hbuf.fits hbuf.own.row hlt2
      rw [hab]
      have e1 : (0 : Int) ≤ (k : Int) := by omega
      have e2 : (k : Int) < (zs.length : Int) := by omega
      cases h : P0.has al z with
      | true =>
        have HS : Hid (O ++ [z] = Y1.only (zs.take (k + 1)) al) := (hyes h).symm
        have HB : Hid _ := hbel
        rw [h] at hH
        clear ez hc hyes hno h hlt2 R1 R2 hO hbuf hasc
        go_wp2_with (first
          | (go_at_call 55; refine (hH.out).mono ?_; rintro e w' ⟨rfl, rfl⟩)
          | (go_at_call 101; refine (hA.out).mono ?_; rintro e w3 ⟨a3, c3, rfl, f3, b3⟩))
        obtain ⟨g3, rfl⟩ : ∃ g3, a3 = some ⟨g3, 0, none⟩ := by
          rcases f3.own with h0 | ⟨g3, e3, _⟩
          · cases O <;> cases h0
          · exact ⟨g3, e3⟩
        go_roundw
        case rel => exact ⟨k + 1, _, c3, g3, by omega, by go_num, rfl, by rw [← HS.out]; rw [List.length_append] at f3; exact ibuf_mono f3 hbel.size, hbel.trans (b3.mono hbel.size)⟩
        case measure => simp [intOf]; omega
      | false =>
        have HS : Hid (Y1.only (zs.take (k + 1)) al = O) := hno h
        rw [h] at hH
        clear ez hc hyes hno h hlt2 R1 R2 hO hasc
        go_wp2_with (go_at_call 55; refine (hH.out).mono ?_; rintro e w' ⟨rfl, rfl⟩)
        go_roundw
        case rel => exact ⟨k + 1, _, c', g, by omega, by go_num, rfl, by rw [HS.out]; exact hbuf, hbel⟩
        case measure => simp [intOf]; omega
    · obtain rfl : k = zs.length := by omega
      have HF : Hid (IBuf w.heap.size wr (some ⟨g, 0, none⟩) n c' (Y1.only zs al)) := by
        show IBuf _ _ _ _ _ _
        rw [List.take_length] at hbuf
        exact hbuf
      have e9 : decide ((zs.length : Int) < (zs.length : Int)) = false := by simp
      clear hbuf R1 R2
      go_wp2
      go_ret
      exact ⟨_, c', by rw [← HF.out.1]; rfl, by rw [← HF.out.1]; exact HF.out.fits, HF.out.own, hbel⟩
end Go.Proofs.YtddlpejklpljoaaGreat.Y2

/- The contracts of spec.l04Add and spec.l05Only at any row, as the given laws call them. -/
namespace Go.Proofs.YtddlpejklpljoaaGreat.Y5
open Go.ChangeShapes Go.WideShapes Go.ChangeAt Go.RowKit
set_option linter.unusedVariables false
set_option linter.unusedSimpArgs false
set_option maxRecDepth 10000

open J0 (IBuf Own)
open I2 (ints)
open Y2 (step_rows row_grown ibuf_mono)

/-- A number put ahead of the first that is not less. -/
def ins (zs : List Int) (x : Int) : List Int := zs.takeWhile (fun z => decide (z < x)) ++ x :: zs.dropWhile (fun z => decide (z < x))

theorem ins_at {zs : List Int} {x : Int} {k : Nat} (hk : k ≤ zs.length) (h1 : ∀ j, j < k → zs.getD j 0 < x) (h2 : k < zs.length → ¬ zs.getD k 0 < x) : ins zs x = zs.take k ++ x :: zs.drop k := by
  induction zs generalizing k with
  | nil => cases k <;> rfl
  | cons z zs ih =>
    cases k with
    | zero =>
      have h := h2 (by simp)
      have h' : ¬ z < x := by simpa using h
      simp [ins, List.takeWhile_cons, List.dropWhile_cons, h']
    | succ k =>
      have h := h1 0 (by omega)
      have h' : z < x := by simpa using h
      have hi := ih (k := k) (by simpa using hk) (fun j hj => by simpa using h1 (j + 1) (by omega)) (fun hl => by simpa using h2 (by simpa using hl))
      unfold ins at hi ⊢
      simp only [List.takeWhile_cons, List.dropWhile_cons, decide_eq_true h', if_true, List.cons_append, List.take_succ_cons, List.drop_succ_cons]
      rw [hi]

theorem ins_length (zs : List Int) (x : Int) : (ins zs x).length = zs.length + 1 := by
  unfold ins
  have := congrArg List.length (List.takeWhile_append_dropWhile (p := fun z => decide (z < x)) (l := zs))
  simp only [List.length_append, List.length_cons] at this ⊢
  omega

theorem ins_perm (zs : List Int) (x : Int) : (ins zs x).Perm (x :: zs) := by
  unfold ins
  refine (List.perm_middle).trans ?_
  rw [List.takeWhile_append_dropWhile]

theorem ins_sorted {zs : List Int} (x : Int) (h : zs.Pairwise (· ≤ ·)) : (ins zs x).Pairwise (· ≤ ·) := by
  induction zs with
  | nil => simp [ins]
  | cons z zs ih =>
    have hz := List.pairwise_cons.1 h
    by_cases hx : z < x
    · have : ins (z :: zs) x = z :: ins zs x := by simp [ins, List.takeWhile_cons, List.dropWhile_cons, hx]
      rw [this, List.pairwise_cons]
      refine ⟨fun y hy => ?_, ih hz.2⟩
      rcases List.mem_cons.1 ((ins_perm zs x).mem_iff.1 hy) with rfl | hm
      · omega
      · exact hz.1 y hm
    · have : ins (z :: zs) x = x :: z :: zs := by simp [ins, List.takeWhile_cons, List.dropWhile_cons, hx]
      rw [this, List.pairwise_cons]
      refine ⟨fun y hy => ?_, h⟩
      rcases List.mem_cons.1 hy with rfl | hm
      · omega
      · have := hz.1 y hm
        omega

theorem ret_len {a : Option Addr} {c n m : Nat} (h : n = m) : Ending.returned (.slice a n c) = .returned (.slice a m c) := by rw [h]

theorem row_drop {W : World} {g off k : Nat} {zs : List Int} (h : P0.Row W (some ⟨g, off, none⟩) zs) (hk : k ≤ zs.length) : P0.Row W (some ⟨g, off + k, none⟩) (zs.drop k) := by
  rcases h with h | ⟨b, o, e, hlt, hc⟩
  · subst h
    exact Or.inl (by simp)
  · cases e
    refine Or.inr ⟨g, off + k, rfl, hlt, fun j hj => ?_⟩
    rw [List.length_drop] at hj
    have := hc (k + j) (by omega)
    rw [show off + k + j = off + (k + j) by omega, this, P0.getD_get _ _ (by omega), P0.getD_get _ _ (by rw [List.length_drop]; omega), List.getElem_drop]
theorem row_take {W : World} {g off k : Nat} {zs : List Int} (h : P0.Row W (some ⟨g, off, none⟩) zs) (hk : k ≤ zs.length) : P0.Row W (some ⟨g, off, none⟩) (zs.take k) := by
  rcases h with h | ⟨b, o, e, hlt, hc⟩
  · subst h
    exact Or.inl (by simp)
  · cases e
    refine Or.inr ⟨g, off, rfl, hlt, fun j hj => ?_⟩
    rw [List.length_take] at hj
    rw [hc j (by omega), P0.getD_get _ _ (by omega), P0.getD_get _ _ (by rw [List.length_take]; omega), List.getElem_take]

set_option maxHeartbeats 4000000 in
theorem l04Add (g off c : Nat) (zs : List Int) (x : Int) (w : World) (hn : zs.length ≤ 1048576) (hc : zs.length ≤ c) (hR : P0.Row w (some ⟨g, off, none⟩) zs) :
    Calls Tryz.prog 101 #[.slice (some ⟨g, off, none⟩) zs.length c, .int .i64 x] w fun e w' => ∃ a' c', e = .returned (.slice a' (zs.length + 1) c') ∧ IBuf w.heap.size w' a' (zs.length + 1) c' (ins zs x) ∧ Below w.heap.size w w' := by
  go_enter Tryz.func101, Tryz.ntmps101
  go_wp2
  go_loop [5] (fun i => ∃ k : Nat, k ≤ zs.length ∧ (∀ j, j < k → zs.getD j 0 < x) ∧ i = .int .i64 k) (fun i => zs.length - (intOf i).toNat)
  case atStart => exact ⟨0, Nat.zero_le _, fun j hj => absurd hj (by omega), rfl⟩
  case round =>
    obtain ⟨k, hk, hless, rfl⟩ := hrel
    have hgo : (k < zs.length ∧ zs.getD k 0 < x) ∨ ((k < zs.length → ¬ zs.getD k 0 < x)) := by
      by_cases h1 : k < zs.length
      · by_cases h2 : zs.getD k 0 < x
        · exact Or.inl ⟨h1, h2⟩
        · exact Or.inr fun _ => h2
      · exact Or.inr fun h => absurd h h1
    rcases hgo with ⟨hlt, x2⟩ | hend
    · obtain ⟨b, of2, hab, _, hcl⟩ := hR.get hlt
      cases hab
      have x1 := hcl k hlt
      have HL : Hid (∀ j, j < k + 1 → zs.getD j 0 < x) := fun j hj => by
        by_cases h : j = k
        · subst h; exact x2
        · exact hless j (by omega)
      obtain ⟨z, ez⟩ : ∃ z, zs.getD k 0 = z := ⟨_, rfl⟩
      rw [ez] at x1 x2
      have e1 : (0 : Int) ≤ (k : Int) := by omega
      have e2 : (k : Int) < (zs.length : Int) := by omega
      clear ez hcl hR hless
      go_wp2
      go_round
      case rel => exact ⟨k + 1, by omega, HL.out, by go_num⟩
      case measure => simp [intOf]; omega
    · have HI : Hid (ins zs x = zs.take k ++ x :: zs.drop k) := ins_at hk hless hend
      have e1 : (0 : Int) ≤ (k : Int) := by omega
      have e2 : (k : Int) ≤ (c : Int) := by omega
      have e3 : (k : Int) ≤ (zs.length : Int) := by omega
      have L0 : Below w.heap.size w w.drew := (Below.refl _ _).drew
      have L1 := L0.alloc L0.size (.cells #[] 3)
      have L2 := L1.alloc L1.size (.cells #[.int .i64 x] 3)
      have M1 := L0.alloc L0.size (.cells #[.int .i64 x] 3)
      have L3 := M1.alloc M1.size (.cells #[] 3)
      have B1 := J0.ibuf_made w.drew L0.size
      have B2 := B1.alloc (.cells #[.int .i64 x] 3)
      have B3 := J0.ibuf_made (w.drew.alloc (.cells #[.int .i64 x] 3)) M1.size
      have X2 := Y1.row_one (w.drew.alloc (.cells #[] 3)) x
      have X3 := (Y1.row_one w.drew x).alloc (.cells #[] 3)
      have hTr := row_take (k := k) hR hk
      have hDr := row_drop (k := k) hR hk
      have hTl : (zs.take k).length = k := by rw [List.length_take]; omega
      have hDl : (zs.drop k).length = zs.length - k := List.length_drop
      have hsum : k + (zs.length - k) = zs.length := by omega
      -- the test, as the walk meets it
      have htest : (k = zs.length) ∨ (k < zs.length ∧ ∃ z, w.cell? ⟨g, off + k, none⟩ = some (.int .i64 z) ∧ decide (z < x) = false) := by
        by_cases h : k < zs.length
        · right
          obtain ⟨b, of2, hab, _, hcl⟩ := hR.get h
          cases hab
          exact ⟨h, _, hcl k h, by simpa using hend h⟩
        · left; omega
      obtain ⟨T, hT⟩ : ∃ T, zs.take k = T := ⟨_, rfl⟩
      obtain ⟨D, hD⟩ : ∃ D, zs.drop k = D := ⟨_, rfl⟩
      rw [hT] at HI hTr hTl
      rw [hD] at HI hDr hDl
      clear hT hD hless hend hR
      rcases htest with hkn | ⟨hkn, z, hz, hzx⟩
      · subst hkn
        obtain rfl : D = [] := List.eq_nil_of_length_eq_zero (by omega)
        have e9 : decide ((zs.length : Int) < (zs.length : Int)) = false := by simp
        clear hDr hDl hsum
        by_cases hcn : c = zs.length
        · subst c
          clear hk hc
          go_wp2
          go_region_law (first
            | (refine step_rows rfl (.tmp 27) (.tmp 30) rfl f8 (some ⟨g, off, none⟩) (0) [] (by simp [Act.eval, Act.put, hTl]) (by simp [Act.eval, Act.put, hTl]) (Or.inl rfl) (by simp only [List.length_cons, List.length_nil]; omega) l8.size ?_; intro a9 c9 w9 f9 g9; have l9 := l8.trans (D7.run_below f8 l8.size g9))
            | (refine step_rows rfl (.tmp 24) (.tmp 26) rfl f7 _ _ [x] (by simp [Act.eval, Act.put, hTl]) (by simp [Act.eval, Act.put]; rfl) x7 (by simp only [List.length_cons, List.length_nil]; omega) l7.size ?_; intro a8 c8 w8 f8 g8; have l8 := l7.trans (D7.run_below f7 l7.size g8))
            | (refine step_rows rfl (.tmp 24) (.tmp 26) rfl (f7.alloc (.cells #[.int .i64 x] 3)) (some ⟨w7.heap.size, 0, none⟩) 1 [x] (by simp [Act.eval, Act.put, hTl]) (by simp [Act.eval, Act.put]) (Y1.row_one w7 x) (by simp only [List.length_cons, List.length_nil]; omega) (l7.alloc l7.size _).size ?_; intro a8 c8 w8 f8 g8; have l8 := (l7.alloc l7.size (.cells #[.int .i64 x] 3)).trans (D7.run_below (f7.alloc (.cells #[.int .i64 x] 3)) (l7.alloc l7.size (.cells #[.int .i64 x] 3)).size g8))
            | (refine step_rows rfl (.tmp 20) (.tmp 23) rfl B1 (some ⟨g, off, none⟩) zs.length T (by simp [Act.eval, Act.put]) (by simp [Act.eval, Act.put, hTl]) (hTr.below L1) (by omega) L1.size ?_; intro a7 c7 w7 f7 g7; have l7 := L1.trans (D7.run_below B1 L1.size g7))
            | (refine step_rows rfl (.tmp 20) (.tmp 23) rfl B2 (some ⟨g, off, none⟩) zs.length T (by simp [Act.eval, Act.put]) (by simp [Act.eval, Act.put, hTl]) (hTr.below L2) (by omega) L2.size ?_; intro a7 c7 w7 f7 g7; have l7 := L2.trans (D7.run_below B2 L2.size g7); have x7 := row_grown X2 g7 (by rintro p ⟨⟩ h; simp [Value.ownBlock] at h))
            | (refine step_rows rfl (.tmp 20) (.tmp 23) rfl B3 (some ⟨g, off, none⟩) zs.length T (by simp [Act.eval, Act.put]) (by simp [Act.eval, Act.put, hTl]) (hTr.below L3) (by omega) L3.size ?_; intro a7 c7 w7 f7 g7; have l7 := L3.trans (D7.run_below B3 L3.size g7); have x7 := row_grown X3 g7 (by rintro p ⟨⟩ h; simp [Value.ownBlock] at h)))
          all_goals
            have f9 : IBuf w.heap.size w9 a9 (zs.length + 1) c9 (ins zs x) := by
              rw [HI.out]
              have hf := f9
              simp only [List.nil_append, List.append_assoc, List.cons_append, List.append_nil] at hf
              rw [show 0 + T.length + [x].length + ([] : List Int).length = zs.length + 1 by simp only [List.length_cons, List.length_nil]; omega] at hf
              exact hf
            go_wp2
            go_ret
            exact ⟨a9, c9, by rfl, f9, l9⟩
        · clear hk
          go_wp2
          go_region_law (first
            | (refine step_rows rfl (.tmp 27) (.tmp 30) rfl f8 (some ⟨g, off + zs.length, none⟩) (c - zs.length) [] (by simp [Act.eval, Act.put, hTl]) (by simp [Act.eval, Act.put, hTl]) (Or.inl rfl) (by simp only [List.length_cons, List.length_nil]; omega) l8.size ?_; intro a9 c9 w9 f9 g9; have l9 := l8.trans (D7.run_below f8 l8.size g9))
            | (refine step_rows rfl (.tmp 24) (.tmp 26) rfl f7 _ _ [x] (by simp [Act.eval, Act.put, hTl]) (by simp [Act.eval, Act.put]; rfl) x7 (by simp only [List.length_cons, List.length_nil]; omega) l7.size ?_; intro a8 c8 w8 f8 g8; have l8 := l7.trans (D7.run_below f7 l7.size g8))
            | (refine step_rows rfl (.tmp 24) (.tmp 26) rfl (f7.alloc (.cells #[.int .i64 x] 3)) (some ⟨w7.heap.size, 0, none⟩) 1 [x] (by simp [Act.eval, Act.put, hTl]) (by simp [Act.eval, Act.put]) (Y1.row_one w7 x) (by simp only [List.length_cons, List.length_nil]; omega) (l7.alloc l7.size _).size ?_; intro a8 c8 w8 f8 g8; have l8 := (l7.alloc l7.size (.cells #[.int .i64 x] 3)).trans (D7.run_below (f7.alloc (.cells #[.int .i64 x] 3)) (l7.alloc l7.size (.cells #[.int .i64 x] 3)).size g8))
            | (refine step_rows rfl (.tmp 20) (.tmp 23) rfl B1 (some ⟨g, off, none⟩) c T (by simp [Act.eval, Act.put]) (by simp [Act.eval, Act.put, hTl]) (hTr.below L1) (by omega) L1.size ?_; intro a7 c7 w7 f7 g7; have l7 := L1.trans (D7.run_below B1 L1.size g7))
            | (refine step_rows rfl (.tmp 20) (.tmp 23) rfl B2 (some ⟨g, off, none⟩) c T (by simp [Act.eval, Act.put]) (by simp [Act.eval, Act.put, hTl]) (hTr.below L2) (by omega) L2.size ?_; intro a7 c7 w7 f7 g7; have l7 := L2.trans (D7.run_below B2 L2.size g7); have x7 := row_grown X2 g7 (by rintro p ⟨⟩ h; simp [Value.ownBlock] at h))
            | (refine step_rows rfl (.tmp 20) (.tmp 23) rfl B3 (some ⟨g, off, none⟩) c T (by simp [Act.eval, Act.put]) (by simp [Act.eval, Act.put, hTl]) (hTr.below L3) (by omega) L3.size ?_; intro a7 c7 w7 f7 g7; have l7 := L3.trans (D7.run_below B3 L3.size g7); have x7 := row_grown X3 g7 (by rintro p ⟨⟩ h; simp [Value.ownBlock] at h)))
          all_goals
            have f9 : IBuf w.heap.size w9 a9 (zs.length + 1) c9 (ins zs x) := by
              rw [HI.out]
              have hf := f9
              simp only [List.nil_append, List.append_assoc, List.cons_append, List.append_nil] at hf
              rw [show 0 + T.length + [x].length + ([] : List Int).length = zs.length + 1 by simp only [List.length_cons, List.length_nil]; omega] at hf
              exact hf
            go_wp2
            go_ret
            exact ⟨a9, c9, by rfl, f9, l9⟩
      · have e4 : (k : Int) < (zs.length : Int) := by omega
        have hck : ¬ c = k := by omega
        go_wp2
        go_region_law (first
          | (refine step_rows rfl (.tmp 27) (.tmp 30) rfl f8 (some ⟨g, off + k, none⟩) (c - k) D (by simp [Act.eval, Act.put, hTl, hDl]) (by simp [Act.eval, Act.put, hTl, hDl]) (hDr.below l8) (by simp only [List.length_cons, List.length_nil]; omega) l8.size ?_; intro a9 c9 w9 f9 g9; have l9 := l8.trans (D7.run_below f8 l8.size g9))
          | (refine step_rows rfl (.tmp 24) (.tmp 26) rfl f7 _ _ [x] (by simp [Act.eval, Act.put, hTl, hDl]) (by simp [Act.eval, Act.put]; rfl) x7 (by simp only [List.length_cons, List.length_nil]; omega) l7.size ?_; intro a8 c8 w8 f8 g8; have l8 := l7.trans (D7.run_below f7 l7.size g8))
          | (refine step_rows rfl (.tmp 24) (.tmp 26) rfl (f7.alloc (.cells #[.int .i64 x] 3)) (some ⟨w7.heap.size, 0, none⟩) 1 [x] (by simp [Act.eval, Act.put, hTl, hDl]) (by simp [Act.eval, Act.put]) (Y1.row_one w7 x) (by simp only [List.length_cons, List.length_nil]; omega) (l7.alloc l7.size _).size ?_; intro a8 c8 w8 f8 g8; have l8 := (l7.alloc l7.size (.cells #[.int .i64 x] 3)).trans (D7.run_below (f7.alloc (.cells #[.int .i64 x] 3)) (l7.alloc l7.size (.cells #[.int .i64 x] 3)).size g8))
          | (refine step_rows rfl (.tmp 20) (.tmp 23) rfl B1 (some ⟨g, off, none⟩) c T (by simp [Act.eval, Act.put]) (by simp [Act.eval, Act.put, hTl, hDl]) (hTr.below L1) (by omega) L1.size ?_; intro a7 c7 w7 f7 g7; have l7 := L1.trans (D7.run_below B1 L1.size g7))
          | (refine step_rows rfl (.tmp 20) (.tmp 23) rfl B2 (some ⟨g, off, none⟩) c T (by simp [Act.eval, Act.put]) (by simp [Act.eval, Act.put, hTl, hDl]) (hTr.below L2) (by omega) L2.size ?_; intro a7 c7 w7 f7 g7; have l7 := L2.trans (D7.run_below B2 L2.size g7); have x7 := row_grown X2 g7 (by rintro p ⟨⟩ h; simp [Value.ownBlock] at h))
          | (refine step_rows rfl (.tmp 20) (.tmp 23) rfl B3 (some ⟨g, off, none⟩) c T (by simp [Act.eval, Act.put]) (by simp [Act.eval, Act.put, hTl, hDl]) (hTr.below L3) (by omega) L3.size ?_; intro a7 c7 w7 f7 g7; have l7 := L3.trans (D7.run_below B3 L3.size g7); have x7 := row_grown X3 g7 (by rintro p ⟨⟩ h; simp [Value.ownBlock] at h)))
        all_goals
          have f9 : IBuf w.heap.size w9 a9 (zs.length + 1) c9 (ins zs x) := by
            rw [HI.out]
            have hf := f9
            simp only [List.nil_append, List.append_assoc, List.cons_append, List.append_nil] at hf
            rw [show 0 + T.length + [x].length + D.length = zs.length + 1 by simp only [List.length_cons, List.length_nil]; omega] at hf
            exact hf
          go_wp2
          go_ret
          exact ⟨a9, c9, by refine ret_len ?_; omega, f9, l9⟩
end Go.Proofs.YtddlpejklpljoaaGreat.Y5

/- The contract of spec.l05Only at any rows, as the given laws call it, and a sorted row's plain facts. -/
namespace Go.Proofs.YtddlpejklpljoaaGreat.Y6
open Go.ChangeShapes Go.WideShapes Go.ChangeAt Go.RowKit
set_option linter.unusedVariables false
set_option linter.unusedSimpArgs false
set_option maxRecDepth 10000

open J0 (IBuf Own)
open I2 (ints)
open Y5 (ins)
open Y2 (ibuf_mono)

/-- A row's numbers in order. -/
def srt (zs : List Int) : List Int := zs.foldl ins []
theorem srt_snoc (zs : List Int) (x : Int) : srt (zs ++ [x]) = ins (srt zs) x := by simp [srt, List.foldl_append]

theorem foldl_perm (zs acc : List Int) : (zs.foldl ins acc).Perm (acc ++ zs) := by
  induction zs generalizing acc with
  | nil => simp
  | cons z zs ih =>
    refine (ih (ins acc z)).trans ?_
    refine ((Y5.ins_perm acc z).append_right zs).trans ?_
    exact (List.perm_middle (l₁ := acc) (l₂ := zs) (a := z)).symm
theorem srt_perm (zs : List Int) : (srt zs).Perm zs := foldl_perm zs []
theorem srt_length (zs : List Int) : (srt zs).length = zs.length := (srt_perm zs).length_eq
theorem foldl_sorted (zs acc : List Int) (h : acc.Pairwise (· ≤ ·)) : (zs.foldl ins acc).Pairwise (· ≤ ·) := by
  induction zs generalizing acc with
  | nil => exact h
  | cons z zs ih => exact ih _ (Y5.ins_sorted z h)
theorem srt_sorted (zs : List Int) : (srt zs).Pairwise (· ≤ ·) := foldl_sorted zs [] List.Pairwise.nil

/-- Two rows in order that hold the same are one. -/
theorem sorted_one : ∀ {xs ys : List Int}, xs.Perm ys → xs.Pairwise (· ≤ ·) → ys.Pairwise (· ≤ ·) → xs = ys
  | [], ys, hp, _, _ => (List.nil_perm.1 hp).symm
  | x :: xs, [], hp, _, _ => absurd hp.length_eq (by simp)
  | x :: xs, y :: ys, hp, h1, h2 => by
    have q1 := List.pairwise_cons.1 h1
    have q2 := List.pairwise_cons.1 h2
    have hx : x ∈ y :: ys := hp.mem_iff.1 (by simp)
    have hy : y ∈ x :: xs := hp.mem_iff.2 (by simp)
    obtain rfl : x = y := by
      rcases List.mem_cons.1 hx with e | m1
      · exact e
      · rcases List.mem_cons.1 hy with e | m2
        · exact e.symm
        · have := q1.1 y m2
          have := q2.1 x m1
          omega
    rw [sorted_one (List.perm_cons x |>.1 hp) q1.2 q2.2]

/-- .. as the library's sort lays it. -/
theorem merge_srt (zs : List Int) : zs.mergeSort (fun x y => decide (x ≤ y)) = srt zs := by
  refine sorted_one ((List.mergeSort_perm zs _).trans (srt_perm zs).symm) ?_ (srt_sorted zs)
  have := List.pairwise_mergeSort (le := fun x y : Int => decide (x ≤ y)) (fun a b c h1 h2 => by simp only [decide_eq_true_eq] at h1 h2 ⊢; omega) (fun a b => by simp only [Bool.or_eq_true, decide_eq_true_eq]; omega) zs
  exact this.imp fun h => by simpa using h

/-- Those of a row that are among others, or those that are not. -/
def kept (b : Bool) (zs al : List Int) : List Int := zs.filter fun z => P0.has al z == b
theorem kept_yes {b : Bool} {zs al : List Int} {k : Nat} (hk : k < zs.length) (h : P0.has al (zs.getD k 0) = b) : srt (kept b (zs.take (k + 1)) al) = ins (srt (kept b (zs.take k) al)) (zs.getD k 0) := by
  rw [← srt_snoc]
  unfold kept
  rw [List.take_succ_eq_append_getElem hk, List.filter_append, P0.getD_get _ _ hk]
  rw [P0.getD_get _ _ hk] at h
  simp [h]
theorem kept_no {b : Bool} {zs al : List Int} {k : Nat} (hk : k < zs.length) (h : P0.has al (zs.getD k 0) = !b) : srt (kept b (zs.take (k + 1)) al) = srt (kept b (zs.take k) al) := by
  unfold kept
  rw [List.take_succ_eq_append_getElem hk, List.filter_append]
  rw [P0.getD_get _ _ hk] at h
  cases b <;> simp [h]
theorem kept_len (b : Bool) (zs al : List Int) (k : Nat) : (srt (kept b (zs.take k) al)).length ≤ zs.length := by
  rw [srt_length]
  exact Nat.le_trans (List.length_filter_le _ _) (by rw [List.length_take]; omega)

set_option maxHeartbeats 2000000 in
theorem l05Only (b : Bool) (a1 a2 : Option Addr) (c1 c2 : Nat) (zs al : List Int) (w : World) (h1 : zs.length ≤ 1048576) (h2 : al.length ≤ 281474976710656) (R1 : P0.Row w a1 zs) (R2 : P0.Row w a2 al) :
    Calls Tryz.prog 68 #[.slice a1 zs.length c1, .slice a2 al.length c2, .bool b] w fun e w' => ∃ a c, e = .returned (.slice a (srt (kept b zs al)).length c) ∧ (srt (kept b zs al)).length ≤ c ∧ Own w.heap.size w' a (srt (kept b zs al)) ∧ Below w.heap.size w w' := by
  have b0 := J0.ibuf_made w (Nat.le_refl _)
  have l0 := K0.below_new w (.cells #[] 3)
  go_enter Tryz.func68, Tryz.ntmps68
  go_wp2
  go_loopw [7, 8] (fun v i w' => ∃ (k n c g : Nat), k ≤ zs.length ∧ i = .int .i64 k ∧ v = .slice (some ⟨g, 0, none⟩) n c ∧ IBuf w.heap.size w' (some ⟨g, 0, none⟩) n c (srt (kept b (zs.take k) al)) ∧ Below w.heap.size w w') (fun _ i _ => zs.length - (intOf i).toNat)
  case atStart => exact ⟨0, 0, 0, _, Nat.zero_le _, rfl, rfl, b0, l0⟩
  case round =>
    obtain ⟨k, n, c', g, hk, rfl, rfl, hbuf, hbel⟩ := hrel
    clear b0 l0
    by_cases hlt : k < zs.length
    · obtain ⟨bb, off, hab, _, hc⟩ := (R1.below hbel).get hlt
      have x1 := hc k hlt
      have hyes := fun h => kept_yes (b := b) (zs := zs) (al := al) hlt h
      have hno := fun h => kept_no (b := b) (zs := zs) (al := al) hlt h
      have hln := kept_len b zs al k
      obtain ⟨z, ez⟩ : ∃ z, zs.getD k 0 = z := ⟨_, rfl⟩
      rw [ez] at x1 hyes hno
      have hH : Hid (Calls Tryz.prog 55 #[.slice a2 al.length c2, .int .i64 z] wr fun e w' => e = .returned (.bool (P0.has al z)) ∧ w' = wr) := N2.hasRow a2 c2 al z wr h2 (R2.below hbel)
      obtain ⟨O, hO⟩ : ∃ O, srt (kept b (zs.take k) al) = O := ⟨_, rfl⟩
      rw [hO] at hbuf hyes hno hln
      obtain rfl : n = O.length := hbuf.1
      have hA : Hid (Calls Tryz.prog 101 #[.slice (some ⟨g, 0, none⟩) O.length c', .int .i64 z] wr fun e w' => ∃ a' c', e = .returned (.slice a' (O.length + 1) c') ∧ IBuf wr.heap.size w' a' (O.length + 1) c' (ins O z) ∧ Below wr.heap.size wr w') := Y5.l04Add g 0 c' O z wr (by omega) hbuf.fits hbuf.own.row
      rw [hab]
      have e1 : (0 : Int) ≤ (k : Int) := by omega
      have e2 : (k : Int) < (zs.length : Int) := by omega
      by_cases h : P0.has al z = b
      · have HS : Hid (ins O z = srt (kept b (zs.take (k + 1)) al)) := (hyes h).symm
        rw [h] at hH
        clear ez hc hyes hno h R1 R2 hO hbuf
        have hbb : (b == b) = true := by simp
        go_wp2_with (first
          | (go_at_call 55; refine (hH.out).mono ?_; rintro e w' ⟨rfl, rfl⟩)
          | (go_at_call 101; refine (hA.out).mono ?_; rintro e w3 ⟨a3, c3, rfl, f3, b3⟩))
        obtain ⟨g3, rfl⟩ : ∃ g3, a3 = some ⟨g3, 0, none⟩ := by
          rcases f3.own with h0 | ⟨g3, e3, _⟩
          · exact absurd (congrArg List.length h0) (by rw [Y5.ins_length]; simp)
          · exact ⟨g3, e3⟩
        go_roundw
        case rel => exact ⟨k + 1, _, c3, g3, by omega, by go_num, rfl, by rw [← HS.out]; exact ibuf_mono f3 hbel.size, hbel.trans (b3.mono hbel.size)⟩
        case measure => simp [intOf]; omega
      · have h' : P0.has al z = !b := by
          cases b <;> cases hh : P0.has al z <;> simp_all
        have HS : Hid (srt (kept b (zs.take (k + 1)) al) = O) := hno h'
        rw [h'] at hH
        have hbb : ((!b) == b) = false := by cases b <;> rfl
        clear ez hc hyes hno h h' R1 R2 hO
        go_wp2_with (go_at_call 55; refine (hH.out).mono ?_; rintro e w' ⟨rfl, rfl⟩)
        go_roundw
        case rel => exact ⟨k + 1, _, c', g, by omega, by go_num, rfl, by rw [HS.out]; exact hbuf, hbel⟩
        case measure => simp [intOf]; omega
    · obtain rfl : k = zs.length := by omega
      have HF : Hid (IBuf w.heap.size wr (some ⟨g, 0, none⟩) n c' (srt (kept b zs al))) := by
        show IBuf _ _ _ _ _ _
        rw [List.take_length] at hbuf
        exact hbuf
      have e9 : decide ((zs.length : Int) < (zs.length : Int)) = false := by simp
      clear hbuf R1 R2
      go_wp2
      go_ret
      exact ⟨_, c', by rw [← HF.out.1]; rfl, by rw [← HF.out.1]; exact HF.out.fits, HF.out.own, hbel⟩
end Go.Proofs.YtddlpejklpljoaaGreat.Y6
