/- Joined texts: plain facts and contracts, as each part says. -/
import Derived.Test.YtdljajjgppcjpaaGreatJkK
import Derived.Deep.RegionLaw
import Derived.Test.YtdljajjgppcjpaaGreatJkJ
import Derived.Test.YtdljajjgppcjpaaGreatJkF
import Derived.Test.YtdljajjgppcjpaaGreatJkA

/- The contract of spec.l04Add where all are less, and of spec.l05Only, as the given laws call them. -/
namespace Go.Proofs.YtdljajjgppcjpaaGreat.Y2
open Go.ChangeShapes Go.WideShapes Go.ChangeAt Go.RowKit
set_option linter.unusedVariables false
set_option linter.unusedSimpArgs false
set_option maxRecDepth 10000

open J0 (IBuf Own)
open I2 (ints)

/-- 'append(list, others...)' as a step of a region that draws its order. -/
theorem step_rows {base n cp : Nat} {p : Option Addr} {W : World} {zs : List Int} {ops : Array Oper} {o : Oper} {A : Act} {K : Act → World → Prop} {Q : Exit → Act → World → Prop} {E : Prop} (hgd : o.guard = none) (sl x : Operand)
    (ho : o.op = .call { callee := .builtin .append, args := #[sl, x], argTypes := #[24, 24] })
    (hbuf : IBuf base W p n cp zs) (ax : Option Addr) (cx : Nat) (xs : List Int) (hs : A.eval sl = .slice p n cp) (hx : A.eval x = .slice ax xs.length cx) (hR : P0.Row W ax xs) (hlen : n + xs.length ≤ 4194304) (hb : base ≤ W.heap.size)
    (h : ∀ a' cap' w', IBuf base w' a' (n + xs.length) cap' (zs ++ xs) → W.grownBy w' (Value.slice p n cp).ownBlock → K (A.put o.dst (.slice a' (n + xs.length) cap')) w') :
    if Region.wanted o (yielded ops A.tmps) = true then Oper.wp Tryz.prog o A W K Q else E := by
  have hw : Region.wanted o (yielded ops A.tmps) = true := by simp [Region.wanted, hgd]
  rw [if_pos hw]
  obtain ⟨a', cap', w', hrun, r1, r2, r3⟩ := D7.run_rows o.type hbuf ax cx xs hR hlen hb
  exact Lib.wp_append_run _ sl x 24 24 ho _ _ hs hx _ _ hrun (h a' cap' w' r1 r2)

theorem row_grown {W W' : World} {ax : Option Addr} {xs : List Int} {r : Option Nat} (h : P0.Row W ax xs) (hg : W.grownBy W' r) (hne : ∀ p, ax = some p → r ≠ some p.block) : P0.Row W' ax xs := by
  rcases h with h | ⟨b, off, rfl, hlt, hc⟩
  · exact Or.inl h
  · have hb : W'.heap[b]? = W.heap[b]? := hg.block b hlt (fun q => hne _ rfl q.symm)
    exact Or.inr ⟨b, off, rfl, Nat.lt_of_lt_of_le hlt hg.size, fun j hj => (World.cell?_of_block (a := ⟨b, off + j, none⟩) hb).trans (hc j hj)⟩

set_option maxHeartbeats 2000000 in
theorem l04Add (g off c : Nat) (zs : List Int) (x : Int) (w : World) (hn : zs.length ≤ 1048576) (hc : zs.length ≤ c) (hR : P0.Row w (some ⟨g, off, none⟩) zs) (hx : ∀ j, j < zs.length → zs.getD j 0 < x) :
    Calls Tryz.prog 94 #[.slice (some ⟨g, off, none⟩) zs.length c, .int .i64 x] w fun e w' => ∃ a' c', e = .returned (.slice a' (zs ++ [x]).length c') ∧ IBuf w.heap.size w' a' (zs ++ [x]).length c' (zs ++ [x]) ∧ Below w.heap.size w w' := by
  go_enter Tryz.func94, Tryz.ntmps94
  go_wp2
  go_loop [5] (fun i => ∃ k : Nat, k ≤ zs.length ∧ i = .int .i64 k) (fun i => zs.length - (intOf i).toNat)
  case atStart => exact ⟨0, Nat.zero_le _, rfl⟩
  case round =>
    obtain ⟨k, hk, rfl⟩ := hrel
    by_cases hlt : k < zs.length
    · obtain ⟨b, of2, hab, _, hcl⟩ := hR.get hlt
      cases hab
      have x1 := hcl k hlt
      have x2 := hx k hlt
      obtain ⟨z, ez⟩ : ∃ z, zs.getD k 0 = z := ⟨_, rfl⟩
      rw [ez] at x1 x2
      have e1 : (0 : Int) ≤ (k : Int) := by omega
      have e2 : (k : Int) < (zs.length : Int) := by omega
      clear ez hcl hx hR
      go_wp2
      go_round
      case rel => exact ⟨k + 1, by omega, by go_num⟩
      case measure => simp [intOf]; omega
    · obtain rfl : k = zs.length := by omega
      have e9 : decide ((zs.length : Int) < (zs.length : Int)) = false := by simp
      have e1 : (0 : Int) ≤ (zs.length : Int) := by omega
      have e2 : (zs.length : Int) ≤ (c : Int) := by omega
      obtain ⟨E, hE⟩ : ∃ E, Obj.cells #[] 3 = E := ⟨_, rfl⟩
      obtain ⟨X, hX⟩ : ∃ X, Obj.cells #[.int .i64 x] 3 = X := ⟨_, rfl⟩
      have L0 : Below w.heap.size w w.drew := (Below.refl _ _).drew
      have L1 := L0.alloc L0.size (.cells #[] 3)
      have L2 := L1.alloc L1.size (.cells #[.int .i64 x] 3)
      have M1 := L0.alloc L0.size (.cells #[.int .i64 x] 3)
      have L3 := M1.alloc M1.size (.cells #[] 3)
      have B1 := J0.ibuf_made w.drew L0.size
      have B2 := B1.alloc (.cells #[.int .i64 x] 3)
      have B3 := J0.ibuf_made (w.drew.alloc (.cells #[.int .i64 x] 3)) M1.size
      have X2 := Y1.row_one (w.drew.alloc (.cells #[] 3)) x
      have X3 := (Y1.row_one w.drew x).alloc (.cells #[] 3)
      have hq : zs.length + 1 ≤ 4194304 := by omega
      clear hE hX E X
      by_cases hcn : c = zs.length
      · subst c
        clear hx hlt hk hc
        go_wp2
        go_region_law (first
          | (refine step_rows rfl (.tmp 27) (.tmp 30) rfl f8 (some ⟨g, off, none⟩) (0) [] (by simp [Act.eval, Act.put]) (by simp [Act.eval, Act.put]) (Or.inl rfl) (by simp only [List.length_cons, List.length_nil]; omega) l8.size ?_; intro a9 c9 w9 f9 g9; have l9 := l8.trans (D7.run_below f8 l8.size g9))
          | (refine step_rows rfl (.tmp 24) (.tmp 26) rfl f7 _ _ [x] (by simp [Act.eval, Act.put]) (by simp [Act.eval, Act.put]; rfl) x7 (by simp only [List.length_cons, List.length_nil]; omega) l7.size ?_; intro a8 c8 w8 f8 g8; have l8 := l7.trans (D7.run_below f7 l7.size g8))
          | (refine step_rows rfl (.tmp 24) (.tmp 26) rfl (f7.alloc (.cells #[.int .i64 x] 3)) (some ⟨w7.heap.size, 0, none⟩) 1 [x] (by simp [Act.eval, Act.put]) (by simp [Act.eval, Act.put]) (Y1.row_one w7 x) (by simp only [List.length_cons, List.length_nil]; omega) (l7.alloc l7.size _).size ?_; intro a8 c8 w8 f8 g8; have l8 := (l7.alloc l7.size (.cells #[.int .i64 x] 3)).trans (D7.run_below (f7.alloc (.cells #[.int .i64 x] 3)) (l7.alloc l7.size (.cells #[.int .i64 x] 3)).size g8))
          | (refine step_rows rfl (.tmp 20) (.tmp 23) rfl B1 (some ⟨g, off, none⟩) zs.length zs (by simp [Act.eval, Act.put]) (by simp [Act.eval, Act.put]) (hR.below L1) (by omega) L1.size ?_; intro a7 c7 w7 f7 g7; have l7 := L1.trans (D7.run_below B1 L1.size g7))
          | (refine step_rows rfl (.tmp 20) (.tmp 23) rfl B2 (some ⟨g, off, none⟩) zs.length zs (by simp [Act.eval, Act.put]) (by simp [Act.eval, Act.put]) (hR.below L2) (by omega) L2.size ?_; intro a7 c7 w7 f7 g7; have l7 := L2.trans (D7.run_below B2 L2.size g7); have x7 := row_grown X2 g7 (by rintro p ⟨⟩ h; simp [Value.ownBlock] at h))
          | (refine step_rows rfl (.tmp 20) (.tmp 23) rfl B3 (some ⟨g, off, none⟩) zs.length zs (by simp [Act.eval, Act.put]) (by simp [Act.eval, Act.put]) (hR.below L3) (by omega) L3.size ?_; intro a7 c7 w7 f7 g7; have l7 := L3.trans (D7.run_below B3 L3.size g7); have x7 := row_grown X3 g7 (by rintro p ⟨⟩ h; simp [Value.ownBlock] at h)))
        all_goals
          go_wp2
          go_ret
          exact ⟨a9, c9, by rw [List.length_append]; rfl, by simpa using f9, l9⟩
      · clear hx hlt hk
        go_wp2
        go_region_law (first
          | (refine step_rows rfl (.tmp 27) (.tmp 30) rfl f8 (some ⟨g, off + zs.length, none⟩) (c - zs.length) [] (by simp [Act.eval, Act.put]) (by simp [Act.eval, Act.put]) (Or.inl rfl) (by simp only [List.length_cons, List.length_nil]; omega) l8.size ?_; intro a9 c9 w9 f9 g9; have l9 := l8.trans (D7.run_below f8 l8.size g9))
          | (refine step_rows rfl (.tmp 24) (.tmp 26) rfl f7 _ _ [x] (by simp [Act.eval, Act.put]) (by simp [Act.eval, Act.put]; rfl) x7 (by simp only [List.length_cons, List.length_nil]; omega) l7.size ?_; intro a8 c8 w8 f8 g8; have l8 := l7.trans (D7.run_below f7 l7.size g8))
          | (refine step_rows rfl (.tmp 24) (.tmp 26) rfl (f7.alloc (.cells #[.int .i64 x] 3)) (some ⟨w7.heap.size, 0, none⟩) 1 [x] (by simp [Act.eval, Act.put]) (by simp [Act.eval, Act.put]) (Y1.row_one w7 x) (by simp only [List.length_cons, List.length_nil]; omega) (l7.alloc l7.size _).size ?_; intro a8 c8 w8 f8 g8; have l8 := (l7.alloc l7.size (.cells #[.int .i64 x] 3)).trans (D7.run_below (f7.alloc (.cells #[.int .i64 x] 3)) (l7.alloc l7.size (.cells #[.int .i64 x] 3)).size g8))
          | (refine step_rows rfl (.tmp 20) (.tmp 23) rfl B1 (some ⟨g, off, none⟩) c zs (by simp [Act.eval, Act.put]) (by simp [Act.eval, Act.put]) (hR.below L1) (by omega) L1.size ?_; intro a7 c7 w7 f7 g7; have l7 := L1.trans (D7.run_below B1 L1.size g7))
          | (refine step_rows rfl (.tmp 20) (.tmp 23) rfl B2 (some ⟨g, off, none⟩) c zs (by simp [Act.eval, Act.put]) (by simp [Act.eval, Act.put]) (hR.below L2) (by omega) L2.size ?_; intro a7 c7 w7 f7 g7; have l7 := L2.trans (D7.run_below B2 L2.size g7); have x7 := row_grown X2 g7 (by rintro p ⟨⟩ h; simp [Value.ownBlock] at h))
          | (refine step_rows rfl (.tmp 20) (.tmp 23) rfl B3 (some ⟨g, off, none⟩) c zs (by simp [Act.eval, Act.put]) (by simp [Act.eval, Act.put]) (hR.below L3) (by omega) L3.size ?_; intro a7 c7 w7 f7 g7; have l7 := L3.trans (D7.run_below B3 L3.size g7); have x7 := row_grown X3 g7 (by rintro p ⟨⟩ h; simp [Value.ownBlock] at h)))
        all_goals
          go_wp2
          go_ret
          exact ⟨a9, c9, by rw [List.length_append]; rfl, by simpa using f9, l9⟩

theorem ibuf_mono {base base' n c : Nat} {a : Option Addr} {w : World} {zs : List Int} (h : IBuf base w a n c zs) (hb : base' ≤ base) : IBuf base' w a n c zs := by
  refine ⟨h.1, h.2.1, ?_⟩
  rcases h.2.2 with h0 | ⟨g, cap, cur, hv, hg, r⟩
  · exact Or.inl h0
  · exact Or.inr ⟨g, cap, cur, hv, Nat.le_trans hb hg, r⟩

theorem only_lt {zs al : List Int} (h : N0.asc zs = true) {k : Nat} (hk : k < zs.length) : ∀ j, j < (Y1.only (zs.take k) al).length → (Y1.only (zs.take k) al).getD j 0 < zs.getD k 0 := by
  intro j hj
  have hm := (List.mem_filter.1 (N0.getD_mem hj)).1
  obtain ⟨i, hi, e⟩ := List.mem_take_iff_getElem.1 hm
  show (List.filter (P0.has al) (List.take k zs)).getD j 0 < _
  rw [← e, P0.getD_get _ _ hk]
  exact List.pairwise_iff_getElem.1 (N0.asc_iff.1 h) i k (by omega) hk (by omega)

set_option maxHeartbeats 1000000 in
theorem l05Only (a1 a2 : Option Addr) (c1 c2 : Nat) (zs al : List Int) (w : World) (h1 : zs.length ≤ 1048576) (h2 : al.length ≤ 281474976710656) (hasc : N0.asc zs = true) (R1 : P0.Row w a1 zs) (R2 : P0.Row w a2 al) :
    Calls Tryz.prog 96 #[.slice a1 zs.length c1, .slice a2 al.length c2, .bool true] w fun e w' => ∃ a c, e = .returned (.slice a (Y1.only zs al).length c) ∧ (Y1.only zs al).length ≤ c ∧ Own w.heap.size w' a (Y1.only zs al) ∧ Below w.heap.size w w' := by
  have b0 := J0.ibuf_made w (Nat.le_refl _)
  have l0 := K0.below_new w (.cells #[] 3)
  go_enter Tryz.func96, Tryz.ntmps96
  go_wp2
  go_loopw [7, 8] (fun v i w' => ∃ (k n c g : Nat), k ≤ zs.length ∧ i = .int .i64 k ∧ v = .slice (some ⟨g, 0, none⟩) n c ∧ IBuf w.heap.size w' (some ⟨g, 0, none⟩) n c (Y1.only (zs.take k) al) ∧ Below w.heap.size w w') (fun _ i _ => zs.length - (intOf i).toNat)
  case atStart => exact ⟨0, 0, 0, _, Nat.zero_le _, rfl, rfl, b0, l0⟩
  case round =>
    obtain ⟨k, n, c', g, hk, rfl, rfl, hbuf, hbel⟩ := hrel
    clear b0 l0
    by_cases hlt : k < zs.length
    · obtain ⟨b, off, hab, _, hc⟩ := (R1.below hbel).get hlt
      have x1 := hc k hlt
      have hyes := fun h => Y1.only_yes (zs := zs) (al := al) hlt h
      have hno := fun h => Y1.only_no (zs := zs) (al := al) hlt h
      have hln := Y1.only_len zs al k
      have hlt2 := only_lt (al := al) hasc hlt
      obtain ⟨z, ez⟩ : ∃ z, zs.getD k 0 = z := ⟨_, rfl⟩
      rw [ez] at x1 hyes hno hlt2
      have hH : Hid (Calls Tryz.prog 41 #[.slice a2 al.length c2, .int .i64 z] wr fun e w' => e = .returned (.bool (P0.has al z)) ∧ w' = wr) := N2.hasRow a2 c2 al z wr h2 (R2.below hbel)
      obtain ⟨O, hO⟩ : ∃ O, Y1.only (zs.take k) al = O := ⟨_, rfl⟩
      rw [hO] at hbuf hyes hno hln hlt2
      obtain rfl : n = O.length := hbuf.1
      have hA : Hid (Calls Tryz.prog 94 #[.slice (some ⟨g, 0, none⟩) O.length c', .int .i64 z] wr fun e w' => ∃ a' c', e = .returned (.slice a' (O ++ [z]).length c') ∧ IBuf wr.heap.size w' a' (O ++ [z]).length c' (O ++ [z]) ∧ Below wr.heap.size wr w') := l04Add g 0 c' O z wr (by omega) hbuf.fits hbuf.own.row hlt2
      rw [hab]
      have e1 : (0 : Int) ≤ (k : Int) := by omega
      have e2 : (k : Int) < (zs.length : Int) := by omega
      cases h : P0.has al z with
      | true =>
        have HS : Hid (O ++ [z] = Y1.only (zs.take (k + 1)) al) := (hyes h).symm
        have HB : Hid _ := hbel
        rw [h] at hH
        clear ez hc hyes hno h hlt2 R1 R2 hO hbuf hasc
        go_wp2_with (first
          | (go_at_call 41; refine (hH.out).mono ?_; rintro e w' ⟨rfl, rfl⟩)
          | (go_at_call 94; refine (hA.out).mono ?_; rintro e w3 ⟨a3, c3, rfl, f3, b3⟩))
        obtain ⟨g3, rfl⟩ : ∃ g3, a3 = some ⟨g3, 0, none⟩ := by
          rcases f3.own with h0 | ⟨g3, e3, _⟩
          · cases O <;> cases h0
          · exact ⟨g3, e3⟩
        go_roundw
        case rel => exact ⟨k + 1, _, c3, g3, by omega, by go_num, rfl, by rw [← HS.out]; rw [List.length_append] at f3; exact ibuf_mono f3 hbel.size, hbel.trans (b3.mono hbel.size)⟩
        case measure => simp [intOf]; omega
      | false =>
        have HS : Hid (Y1.only (zs.take (k + 1)) al = O) := hno h
        rw [h] at hH
        clear ez hc hyes hno h hlt2 R1 R2 hO hasc
        go_wp2_with (go_at_call 41; refine (hH.out).mono ?_; rintro e w' ⟨rfl, rfl⟩)
        go_roundw
        case rel => exact ⟨k + 1, _, c', g, by omega, by go_num, rfl, by rw [HS.out]; exact hbuf, hbel⟩
        case measure => simp [intOf]; omega
    · obtain rfl : k = zs.length := by omega
      have HF : Hid (IBuf w.heap.size wr (some ⟨g, 0, none⟩) n c' (Y1.only zs al)) := by
        show IBuf _ _ _ _ _ _
        rw [List.take_length] at hbuf
        exact hbuf
      have e9 : decide ((zs.length : Int) < (zs.length : Int)) = false := by simp
      clear hbuf R1 R2
      go_wp2
      go_ret
      exact ⟨_, c', by rw [← HF.out.1]; rfl, by rw [← HF.out.1]; exact HF.out.fits, HF.out.own, hbel⟩
end Go.Proofs.YtdljajjgppcjpaaGreat.Y2

/- What loans have, gathered: contracts of impl.lentInos, impl.lentFresh, impl.lentPool, spec.l06Pools and spec.l06Lent. -/
namespace Go.Proofs.YtdljajjgppcjpaaGreat.KO
open Go.ChangeShapes Go.WideShapes Go.ChangeAt Go.RowKit
set_option linter.unusedVariables false
set_option linter.unusedSimpArgs false
set_option maxRecDepth 10000

open N0 (Ln)
open N1 (Sl Lists)
open Z0 (dat Kp Lns kval)
open Z4 (Bk bk_new)
open J0 (IBuf Own)

/-- What the first of some loans have, one behind the other. -/
def gath (f : Ln → List Int) (ds : List Ln) : Nat → List Int
  | 0 => []
  | k + 1 => gath f ds k ++ f (dat ds k)
def inos (ds : List Ln) : List Int := gath (fun d => [d.ino]) ds ds.length
def freshs (ds : List Ln) : List Int := gath (fun d => d.fr) ds ds.length
def pools (ds : List Ln) : List Int := gath (fun d => d.po) ds ds.length
def lents (ds : List Ln) : List Int := gath (fun d => d.ino :: d.fr) ds ds.length

theorem gath_len (f : Ln → List Int) (ds : List Ln) (m : Nat) (h : ∀ d, (f d).length ≤ 1 + N3.total d) : ∀ k, (gath f ds k).length ≤ k + Z1.tot ds k
  | 0 => Nat.le_refl _
  | k + 1 => by
    have h1 := gath_len f ds m h k
    have h2 := h (dat ds k)
    have h3 : Z1.tot ds (k + 1) = Z1.tot ds k + N3.total (dat ds k) := rfl
    rw [gath, List.length_append]
    omega

/-- 'list = append(list, z)', the new block's number told. -/
theorem append_intH {base n cap : Nat} {a : Option Addr} {w : World} {zs : List Int} {ops : Array Oper} {rest : List Oper} {o : Oper} {A : Act} {Q : Exit → Act → World → Prop} (hgd : o.guard = none) (sl x : Operand)
    (ho : o.op = .call { callee := .builtin .append, args := #[sl, x], argTypes := #[24, 24] })
    (hbuf : IBuf base w a n cap zs) (z : Int) (hs : A.eval sl = .slice a n cap) {H : Nat} (hH : w.heap.size = H) (hx : A.eval x = .slice (some ⟨H, 0, none⟩) 1 1) (hlen : n + 1 ≤ 1048576) (hb : base ≤ w.heap.size)
    (h : ∀ g' cap' w', IBuf base w' (some ⟨g', 0, none⟩) (n + 1) cap' (zs ++ [z]) → Below base w w' → wpList Tryz.prog ops Q rest (A.put o.dst (.slice (some ⟨g', 0, none⟩) (n + 1) cap')) w') : wpList Tryz.prog ops Q (o :: rest) A (w.alloc (.cells #[.int .i64 z] 3)) := by
  subst hH
  exact J0.append_int hgd sl x ho hbuf z hs hx hlen hb h

/-- What is handed out. -/
def Out (Z : List Int) (w : World) (e : Ending) (w' : World) : Prop := ∃ a c, e = .returned (.slice a Z.length c) ∧ Own w.heap.size w' a Z ∧ Z.length ≤ c ∧ Below w.heap.size w w'

set_option maxHeartbeats 2000000 in
theorem lentInos (a : Option Addr) (c : Nat) (ds : List Ln) (ss : Nat → Sl) (w : World) (hn : ds.length ≤ 1048576) (ht : ds.length + Z1.tot ds ds.length ≤ 1048576) (hR : Lns w a ds ss) :
    Calls Tryz.prog 59 #[.slice a ds.length c] w (Out (gath (fun d : Ln => [d.ino]) ds ds.length) w) := by
  have n1 := K0.below_new w (.cells #[] 3)
  have B1 := J0.ibuf_made (base := w.heap.size) w (Nat.le_refl _)
  have HL : Hid (∀ W, Below w.heap.size w W → Lns W a ds ss) := fun W hb => hR.below hb
  clear hR
  go_enter Tryz.func59, Tryz.ntmps59
  go_wp2
  go_loopw [3, 9] (fun p i w' => ∃ (j : Nat) (a' : Option Addr) (cap' : Nat), j ≤ ds.length ∧ i = .int .i64 j ∧ p = .slice a' (gath (fun d : Ln => [d.ino]) ds j).length cap' ∧ IBuf w.heap.size w' a' (gath (fun d : Ln => [d.ino]) ds j).length cap' (gath (fun d : Ln => [d.ino]) ds j) ∧ Below w.heap.size w w') (fun _ i _ => ds.length - (intOf i).toNat)
  case atStart => exact ⟨0, _, _, Nat.zero_le _, rfl, rfl, B1, n1⟩
  case round =>
    obtain ⟨j, a3, c3, hj, rfl, rfl, hbf, hbel⟩ := hrel
    clear B1 n1
    by_cases hlt : j < ds.length
    · have ls := (HL.out _ hbel).sub j hlt
      obtain ⟨b, off, hab, hlt0, hc⟩ := (HL.out _ hbel).row.get hlt
      subst hab
      obtain ⟨y0, y1, y2, y3, y4, y5, y6, y7⟩ := hc j hlt
      have hgl := gath_len (fun d : Ln => [d.ino]) ds 0 (fun d => by unfold N3.total; first | (simp only [List.length_cons, List.length_nil]; omega) | omega) (j + 1)
      have htl := Z1.tot_le (ds := ds) (k := j + 1) (n := ds.length) (by omega)
      have hgs : gath (fun d : Ln => [d.ino]) ds (j + 1) = gath (fun d : Ln => [d.ino]) ds j ++ (fun d : Ln => [d.ino]) (dat ds j) := rfl
      obtain ⟨d, ed⟩ : ∃ d, dat ds j = d := ⟨_, rfl⟩
      obtain ⟨s, es⟩ : ∃ s, ss j = s := ⟨_, rfl⟩
      rw [ed, es] at ls
      rw [ed] at y0 y1 y2 y3 y4 y5 y6 y7 hgs
      rw [es] at y4 y6 y7
      have hgl2 := congrArg List.length hgs
      rw [List.length_append] at hgl2
      simp only [List.length_cons, List.length_nil] at hgl2
      obtain ⟨acc, ea⟩ : ∃ acc, gath (fun d : Ln => [d.ino]) ds j = acc := ⟨_, rfl⟩
      rw [ea] at hbf hgs hgl2 ⊢
      have HS : Hid (gath (fun d : Ln => [d.ino]) ds (j + 1) = acc ++ [d.ino]) := hgs
      have hle : acc.length + 1 ≤ 1048576 := by omega
      have e1 : (0 : Int) ≤ (j : Int) := by omega
      have e2 : (j : Int) < (ds.length : Int) := by omega
      have hB := hbel.size
      have hal := K0.below_new wr (.cells #[.int .i64 d.ino, .int .i64 d.cl, .int .i64 d.un, .string d.rc, .slice s.a1 d.pg.length s.c1, .string d.sav, .slice s.a2 d.po.length s.c2, .slice s.a3 d.fr.length s.c3] 26)
      have bx := N1.lb_new d s wr 26
      have z0 := bx.c0
      have z6 := bx.c6
      have z7 := bx.c7
      have hb1 := hbf.below hal
      have lsA := ls.below hal
      have M1 := hbel.trans (hal.mono hB)
      have hB1 := Nat.le_trans hB hal.size
      clear ed es hc ls ea hgs hgl hgl2 HL
      go_wp2_with (at_builtin; refine append_intH rfl (.tmp 13) (.tmp 16) rfl hb1 d.ino (by rfl) (H := wr.heap.size + 1) (by simp) (by rfl) (by omega) hB1 ?_; intro g5 c5 w5 f5 l5)
      go_roundw
      case rel => exact ⟨j + 1, some ⟨g5, 0, none⟩, c5, by omega, by go_num, by rw [HS.out, List.length_append]; rfl, by rw [HS.out, List.length_append]; exact f5, M1.trans l5⟩
      case measure => simp [intOf]; omega
    · obtain rfl : j = ds.length := by omega
      clear HL
      go_wp2
      go_ret
      exact ⟨a3, c3, rfl, hbf.own, hbf.fits, hbel⟩

set_option maxHeartbeats 2000000 in
theorem lentFresh (a : Option Addr) (c : Nat) (ds : List Ln) (ss : Nat → Sl) (w : World) (hn : ds.length ≤ 1048576) (ht : ds.length + Z1.tot ds ds.length ≤ 1048576) (hR : Lns w a ds ss) :
    Calls Tryz.prog 66 #[.slice a ds.length c] w (Out (gath (fun d : Ln => d.fr) ds ds.length) w) := by
  have n1 := K0.below_new w (.cells #[] 3)
  have B1 := J0.ibuf_made (base := w.heap.size) w (Nat.le_refl _)
  have HL : Hid (∀ W, Below w.heap.size w W → Lns W a ds ss) := fun W hb => hR.below hb
  clear hR
  go_enter Tryz.func66, Tryz.ntmps66
  go_wp2
  go_loopw [3, 9] (fun p i w' => ∃ (j : Nat) (a' : Option Addr) (cap' : Nat), j ≤ ds.length ∧ i = .int .i64 j ∧ p = .slice a' (gath (fun d : Ln => d.fr) ds j).length cap' ∧ IBuf w.heap.size w' a' (gath (fun d : Ln => d.fr) ds j).length cap' (gath (fun d : Ln => d.fr) ds j) ∧ Below w.heap.size w w') (fun _ i _ => ds.length - (intOf i).toNat)
  case atStart => exact ⟨0, _, _, Nat.zero_le _, rfl, rfl, B1, n1⟩
  case round =>
    obtain ⟨j, a3, c3, hj, rfl, rfl, hbf, hbel⟩ := hrel
    clear B1 n1
    by_cases hlt : j < ds.length
    · have ls := (HL.out _ hbel).sub j hlt
      obtain ⟨b, off, hab, hlt0, hc⟩ := (HL.out _ hbel).row.get hlt
      subst hab
      obtain ⟨y0, y1, y2, y3, y4, y5, y6, y7⟩ := hc j hlt
      have hgl := gath_len (fun d : Ln => d.fr) ds 0 (fun d => by unfold N3.total; first | (simp only [List.length_cons, List.length_nil]; omega) | omega) (j + 1)
      have htl := Z1.tot_le (ds := ds) (k := j + 1) (n := ds.length) (by omega)
      have hgs : gath (fun d : Ln => d.fr) ds (j + 1) = gath (fun d : Ln => d.fr) ds j ++ (fun d : Ln => d.fr) (dat ds j) := rfl
      obtain ⟨d, ed⟩ : ∃ d, dat ds j = d := ⟨_, rfl⟩
      obtain ⟨s, es⟩ : ∃ s, ss j = s := ⟨_, rfl⟩
      rw [ed, es] at ls
      rw [ed] at y0 y1 y2 y3 y4 y5 y6 y7 hgs
      rw [es] at y4 y6 y7
      have hgl2 := congrArg List.length hgs
      rw [List.length_append] at hgl2
      simp only [List.length_cons, List.length_nil] at hgl2
      obtain ⟨acc, ea⟩ : ∃ acc, gath (fun d : Ln => d.fr) ds j = acc := ⟨_, rfl⟩
      rw [ea] at hbf hgs hgl2 ⊢
      have HS : Hid (gath (fun d : Ln => d.fr) ds (j + 1) = acc ++ d.fr) := hgs
      have hle : acc.length + (d.fr).length ≤ 1048576 := by omega
      have e1 : (0 : Int) ≤ (j : Int) := by omega
      have e2 : (j : Int) < (ds.length : Int) := by omega
      have hB := hbel.size
      have hal := K0.below_new wr (.cells #[.int .i64 d.ino, .int .i64 d.cl, .int .i64 d.un, .string d.rc, .slice s.a1 d.pg.length s.c1, .string d.sav, .slice s.a2 d.po.length s.c2, .slice s.a3 d.fr.length s.c3] 26)
      have bx := N1.lb_new d s wr 26
      have z0 := bx.c0
      have z6 := bx.c6
      have z7 := bx.c7
      have hb1 := hbf.below hal
      have lsA := ls.below hal
      have M1 := hbel.trans (hal.mono hB)
      have hB1 := Nat.le_trans hB hal.size
      clear ed es hc ls ea hgs hgl hgl2 HL
      go_wp2_with (at_builtin; refine Q1.append_rows rfl (.tmp 13) (.tmp 15) rfl hb1 s.a3 s.c3 d.fr (by rfl) (by rfl) lsA.r3 (by omega) hB1 ?_; intro a5 c5 w5 f5 l5)
      go_roundw
      case rel => exact ⟨j + 1, a5, c5, by omega, by go_num, by rw [HS.out, List.length_append], by rw [HS.out, List.length_append]; exact f5, M1.trans l5⟩
      case measure => simp [intOf]; omega
    · obtain rfl : j = ds.length := by omega
      clear HL
      go_wp2
      go_ret
      exact ⟨a3, c3, rfl, hbf.own, hbf.fits, hbel⟩

set_option maxHeartbeats 2000000 in
theorem lentPool (a : Option Addr) (c : Nat) (ds : List Ln) (ss : Nat → Sl) (w : World) (hn : ds.length ≤ 1048576) (ht : ds.length + Z1.tot ds ds.length ≤ 1048576) (hR : Lns w a ds ss) :
    Calls Tryz.prog 67 #[.slice a ds.length c] w (Out (gath (fun d : Ln => d.po) ds ds.length) w) := by
  have n1 := K0.below_new w (.cells #[] 3)
  have B1 := J0.ibuf_made (base := w.heap.size) w (Nat.le_refl _)
  have HL : Hid (∀ W, Below w.heap.size w W → Lns W a ds ss) := fun W hb => hR.below hb
  clear hR
  go_enter Tryz.func67, Tryz.ntmps67
  go_wp2
  go_loopw [3, 9] (fun p i w' => ∃ (j : Nat) (a' : Option Addr) (cap' : Nat), j ≤ ds.length ∧ i = .int .i64 j ∧ p = .slice a' (gath (fun d : Ln => d.po) ds j).length cap' ∧ IBuf w.heap.size w' a' (gath (fun d : Ln => d.po) ds j).length cap' (gath (fun d : Ln => d.po) ds j) ∧ Below w.heap.size w w') (fun _ i _ => ds.length - (intOf i).toNat)
  case atStart => exact ⟨0, _, _, Nat.zero_le _, rfl, rfl, B1, n1⟩
  case round =>
    obtain ⟨j, a3, c3, hj, rfl, rfl, hbf, hbel⟩ := hrel
    clear B1 n1
    by_cases hlt : j < ds.length
    · have ls := (HL.out _ hbel).sub j hlt
      obtain ⟨b, off, hab, hlt0, hc⟩ := (HL.out _ hbel).row.get hlt
      subst hab
      obtain ⟨y0, y1, y2, y3, y4, y5, y6, y7⟩ := hc j hlt
      have hgl := gath_len (fun d : Ln => d.po) ds 0 (fun d => by unfold N3.total; first | (simp only [List.length_cons, List.length_nil]; omega) | omega) (j + 1)
      have htl := Z1.tot_le (ds := ds) (k := j + 1) (n := ds.length) (by omega)
      have hgs : gath (fun d : Ln => d.po) ds (j + 1) = gath (fun d : Ln => d.po) ds j ++ (fun d : Ln => d.po) (dat ds j) := rfl
      obtain ⟨d, ed⟩ : ∃ d, dat ds j = d := ⟨_, rfl⟩
      obtain ⟨s, es⟩ : ∃ s, ss j = s := ⟨_, rfl⟩
      rw [ed, es] at ls
      rw [ed] at y0 y1 y2 y3 y4 y5 y6 y7 hgs
      rw [es] at y4 y6 y7
      have hgl2 := congrArg List.length hgs
      rw [List.length_append] at hgl2
      simp only [List.length_cons, List.length_nil] at hgl2
      obtain ⟨acc, ea⟩ : ∃ acc, gath (fun d : Ln => d.po) ds j = acc := ⟨_, rfl⟩
      rw [ea] at hbf hgs hgl2 ⊢
      have HS : Hid (gath (fun d : Ln => d.po) ds (j + 1) = acc ++ d.po) := hgs
      have hle : acc.length + (d.po).length ≤ 1048576 := by omega
      have e1 : (0 : Int) ≤ (j : Int) := by omega
      have e2 : (j : Int) < (ds.length : Int) := by omega
      have hB := hbel.size
      have hal := K0.below_new wr (.cells #[.int .i64 d.ino, .int .i64 d.cl, .int .i64 d.un, .string d.rc, .slice s.a1 d.pg.length s.c1, .string d.sav, .slice s.a2 d.po.length s.c2, .slice s.a3 d.fr.length s.c3] 26)
      have bx := N1.lb_new d s wr 26
      have z0 := bx.c0
      have z6 := bx.c6
      have z7 := bx.c7
      have hb1 := hbf.below hal
      have lsA := ls.below hal
      have M1 := hbel.trans (hal.mono hB)
      have hB1 := Nat.le_trans hB hal.size
      clear ed es hc ls ea hgs hgl hgl2 HL
      go_wp2_with (at_builtin; refine Q1.append_rows rfl (.tmp 13) (.tmp 15) rfl hb1 s.a2 s.c2 d.po (by rfl) (by rfl) lsA.r2 (by omega) hB1 ?_; intro a5 c5 w5 f5 l5)
      go_roundw
      case rel => exact ⟨j + 1, a5, c5, by omega, by go_num, by rw [HS.out, List.length_append], by rw [HS.out, List.length_append]; exact f5, M1.trans l5⟩
      case measure => simp [intOf]; omega
    · obtain rfl : j = ds.length := by omega
      clear HL
      go_wp2
      go_ret
      exact ⟨a3, c3, rfl, hbf.own, hbf.fits, hbel⟩

set_option maxHeartbeats 2000000 in
theorem l06Pools (k : Kp) (a : Option Addr) (c : Nat) (ss : Nat → Sl) (w : World) (hn : k.ds.length ≤ 1048576) (ht : k.ds.length + Z1.tot k.ds k.ds.length ≤ 1048576) (hR : Lns w a k.ds ss) :
    Calls Tryz.prog 52 #[kval k a c] w (Out (gath (fun d : Ln => d.po) k.ds k.ds.length) w) := by
  have x0 := bk_new w k a c
  have n1 := K0.below_new (w.alloc (.cells #[.string k.mem, .string k.dur, .slice a k.ds.length c, .int .i64 k.ck] 51)) (.cells #[] 3)
  have e0 : (w.alloc (.cells #[.string k.mem, .string k.dur, .slice a k.ds.length c, .int .i64 k.ck] 51)).heap.size = w.heap.size + 1 := by simp
  have B1 := J0.ibuf_made (base := w.heap.size + 1) (w.alloc (.cells #[.string k.mem, .string k.dur, .slice a k.ds.length c, .int .i64 k.ck] 51)) (by rw [e0]; exact Nat.le_refl _)
  rw [e0] at n1 B1
  have HB : Hid (∀ W, Below (w.heap.size + 1) (w.alloc (.cells #[.string k.mem, .string k.dur, .slice a k.ds.length c, .int .i64 k.ck] 51)) W → Below w.heap.size w W ∧ K0.Blk w.heap.size (Z0.kvals k a c) W) := fun W hW => ⟨x0.bel.trans (hW.mono (Nat.le_succ _)), J0.blk_keep x0.arg hW (Nat.lt_succ_self _)⟩
  have HL : Hid (∀ W, Below w.heap.size w W → Lns W a k.ds ss) := fun W hb => hR.below hb
  clear hR x0 e0
  go_enter Tryz.func52, Tryz.ntmps52
  go_wp2
  go_loopw [3, 4] (fun p i w' => ∃ (j : Nat) (a' : Option Addr) (cap' : Nat), j ≤ k.ds.length ∧ i = .int .i64 j ∧ p = .slice a' (gath (fun d : Ln => d.po) k.ds j).length cap' ∧ IBuf (w.heap.size + 1) w' a' (gath (fun d : Ln => d.po) k.ds j).length cap' (gath (fun d : Ln => d.po) k.ds j) ∧ Below (w.heap.size + 1) (w.alloc (.cells #[.string k.mem, .string k.dur, .slice a k.ds.length c, .int .i64 k.ck] 51)) w') (fun _ i _ => k.ds.length - (intOf i).toNat)
  case atStart => exact ⟨0, _, _, Nat.zero_le _, rfl, rfl, B1, n1⟩
  case round =>
    obtain ⟨j, a3, c3, hj, rfl, rfl, hbf, hbel⟩ := hrel
    clear B1 n1
    obtain ⟨M1, kb⟩ := HB.out _ hbel
    have c2 := kb.c2
    by_cases hlt : j < k.ds.length
    · have ls := (HL.out _ M1).sub j hlt
      obtain ⟨b, off, hab, hlt0, hc⟩ := (HL.out _ M1).row.get hlt
      obtain ⟨y0, y1, y2, y3, y4, y5, y6, y7⟩ := hc j hlt
      have hgl := gath_len (fun d : Ln => d.po) k.ds 0 (fun d => by unfold N3.total; first | (simp only [List.length_cons, List.length_nil]; omega) | omega) (j + 1)
      have htl := Z1.tot_le (ds := k.ds) (k := j + 1) (n := k.ds.length) (by omega)
      have hgs : gath (fun d : Ln => d.po) k.ds (j + 1) = gath (fun d : Ln => d.po) k.ds j ++ (dat k.ds j).po := rfl
      obtain ⟨d, ed⟩ : ∃ d, dat k.ds j = d := ⟨_, rfl⟩
      obtain ⟨s, es⟩ : ∃ s, ss j = s := ⟨_, rfl⟩
      rw [ed, es] at ls
      rw [ed] at y0 y1 y2 y3 y4 y5 y6 y7 hgs
      rw [es] at y4 y6 y7
      rw [hab] at c2
      have hgl2 := congrArg List.length hgs
      rw [List.length_append] at hgl2
      obtain ⟨acc, ea⟩ : ∃ acc, gath (fun d : Ln => d.po) k.ds j = acc := ⟨_, rfl⟩
      rw [ea] at hbf hgs hgl2 ⊢
      have HS : Hid (gath (fun d : Ln => d.po) k.ds (j + 1) = acc ++ d.po) := hgs
      have hle : acc.length + d.po.length ≤ 1048576 := by omega
      have e1 : (0 : Int) ≤ (j : Int) := by omega
      have e2 : (j : Int) < (k.ds.length : Int) := by omega
      have hB : w.heap.size + 1 ≤ wr.heap.size := kb.lt
      have lr := ls.r2
      clear ed es hc ls ea hgs hgl hgl2 HL hab
      go_wp2_with (at_builtin; refine Q1.append_rows rfl (.tmp 13) (.tmp 19) rfl hbf s.a2 s.c2 d.po (by rfl) (by rfl) lr (by omega) hB ?_; intro a5 c5 w5 f5 l5)
      go_roundw
      case rel => exact ⟨j + 1, a5, c5, by omega, by go_num, by rw [HS.out, List.length_append], by rw [HS.out, List.length_append]; exact f5, hbel.trans l5⟩
      case measure => simp [intOf]; omega
    · obtain rfl : j = k.ds.length := by omega
      have e9 : decide ((k.ds.length : Int) < (k.ds.length : Int)) = false := by simp
      clear HL HB
      go_wp2
      go_ret
      exact ⟨a3, c3, rfl, hbf.own.mono (Nat.le_succ _), hbf.fits, M1⟩
end Go.Proofs.YtdljajjgppcjpaaGreat.KO

/- Plain facts on a tree of directories: who has an inode, the way up, and a walk down by a stack. -/
namespace Go.Proofs.YtdljajjgppcjpaaGreat.TR
open T0 (Ent)
set_option linter.unusedVariables false
set_option linter.unusedSimpArgs false

/-- All entries of the first directories, each with its directory. -/
def flat (E : Nat → List Ent) : Nat → List (Nat × Ent)
  | 0 => []
  | i + 1 => flat E i ++ (E i).map fun e => (i, e)
/-- And the first ones of the next. -/
def pre (E : Nat → List Ent) (i k : Nat) : List (Nat × Ent) := flat E i ++ ((E i).take k).map fun e => (i, e)

theorem pre_zero (E : Nat → List Ent) (i : Nat) : pre E i 0 = flat E i := by simp [pre]
theorem pre_all (E : Nat → List Ent) (i : Nat) : pre E i (E i).length = flat E (i + 1) := by simp [pre, flat]
theorem pre_succ (E : Nat → List Ent) (i k : Nat) (h : k < (E i).length) : pre E i (k + 1) = pre E i k ++ [(i, T0.ent (E i) k)] := by
  unfold pre
  rw [List.take_succ_eq_append_getElem h, List.map_append, T0.ent_get _ _ h, List.append_assoc]
  rfl
theorem flat_mem {E : Nat → List Ent} {d : Nat} {e : Ent} : ∀ {n : Nat}, (d, e) ∈ flat E n ↔ d < n ∧ e ∈ E d
  | 0 => by simp [flat]
  | n + 1 => by
    rw [flat, List.mem_append, flat_mem]
    simp only [List.mem_map, Prod.mk.injEq]
    constructor
    · rintro (⟨h1, h2⟩ | ⟨a, h1, rfl, rfl⟩)
      · exact ⟨by omega, h2⟩
      · exact ⟨by omega, h1⟩
    · rintro ⟨h1, h2⟩
      by_cases h : d = n
      · subst h
        exact Or.inr ⟨e, h2, rfl, rfl⟩
      · exact Or.inl ⟨by omega, h2⟩

/-- The entries of an inode. -/
def own (l : List (Nat × Ent)) (x : Int) : List (Nat × Ent) := l.filter fun p => p.2.1 == x
/-- The directory that has it: -1 for none, -2 for more than one. -/
def par (l : List (Nat × Ent)) (x : Int) : Int := match own l x with
  | [] => -1
  | [p] => p.1
  | _ => -2
/-- Its first name. -/
def nam (l : List (Nat × Ent)) (x : Int) : ByteArray := match own l x with
  | [] => ⟨#[]⟩
  | p :: _ => p.2.2

theorem own_snoc (l : List (Nat × Ent)) (i : Nat) (e : Ent) (x : Int) : own (l ++ [(i, e)]) x = if e.1 = x then own l x ++ [(i, e)] else own l x := by
  unfold own
  rw [List.filter_append]
  by_cases h : e.1 = x <;> simp [h]
theorem par_nil (l : List (Nat × Ent)) (x : Int) : par l x = -1 ↔ own l x = [] := by
  unfold par
  split
  · simp [*]
  · rename_i p h
    simp [h]
  · rename_i h1 h2
    constructor
    · intro h
      omega
    · intro h
      exact absurd h h1
theorem par_step (l : List (Nat × Ent)) (i : Nat) (e : Ent) (x : Int) : par (l ++ [(i, e)]) x = if e.1 = x then (if par l x = -1 then (i : Int) else -2) else par l x := by
  by_cases h : e.1 = x
  · rw [if_pos h]
    by_cases hn : own l x = []
    · rw [if_pos ((par_nil l x).2 hn)]
      unfold par
      rw [own_snoc, if_pos h, hn]
      rfl
    · rw [if_neg (fun h' => hn ((par_nil l x).1 h'))]
      unfold par
      rw [own_snoc, if_pos h]
      rcases hl : own l x with _ | ⟨p, _ | ⟨q, r⟩⟩
      · exact absurd hl hn
      · rfl
      · rfl
  · rw [if_neg h]
    unfold par
    rw [own_snoc, if_neg h]
theorem nam_step (l : List (Nat × Ent)) (i : Nat) (e : Ent) (x : Int) : nam (l ++ [(i, e)]) x = if e.1 = x ∧ par l x = -1 then e.2 else nam l x := by
  unfold nam
  rw [own_snoc]
  by_cases h : e.1 = x
  · rw [if_pos h]
    by_cases hn : own l x = []
    · rw [if_pos ⟨h, (par_nil l x).2 hn⟩, hn]
      rfl
    · rw [if_neg (fun h' => hn ((par_nil l x).1 h'.2))]
      rcases hl : own l x with _ | ⟨p, r⟩
      · exact absurd hl hn
      · rfl
  · rw [if_neg h, if_neg (fun h' => h h'.1)]
theorem par_ge (l : List (Nat × Ent)) (x : Int) : par l x = -1 ∨ par l x = -2 ∨ ∃ p, own l x = [p] ∧ par l x = p.1 := by
  unfold par
  split
  · exact Or.inl rfl
  · exact Or.inr (Or.inr ⟨_, by assumption, rfl⟩)
  · exact Or.inr (Or.inl rfl)

/-- The way up to 0. -/
def root (p : Int → Int) : Nat → Int → Bool
  | 0, i => i == 0
  | n + 1, i => if i = 0 then true else if i < 0 then false else root p n (p i)

theorem root_zero (p : Int → Int) (n : Nat) : root p n 0 = true := by cases n <;> simp [root]
theorem root_neg (p : Int → Int) (n : Nat) (i : Int) (h : i < 0) : root p n i = false := by
  cases n with
  | zero => simp [root]; omega
  | succ n => rw [root, if_neg (by omega), if_pos h]
theorem root_pos (p : Int → Int) (n : Nat) (i : Int) (h : 0 < i) : root p (n + 1) i = root p n (p i) := by rw [root, if_neg (by omega), if_neg (by omega)]

/-- What is asked of one inode, and of all. -/
def oneOk (E : Nat → List Ent) (K : Nat → Int) (i : Nat) : Bool := ((K i == 0) == (par (flat E 8) i == -1)) && (K i == 0 || root (par (flat E 8)) 8 i)
def treeOk (E : Nat → List Ent) (K : Nat → Int) : Bool := (List.range 7).all fun j => oneOk E K (j + 1)

theorem treeOk_iff {E : Nat → List Ent} {K : Nat → Int} : treeOk E K = true ↔ ∀ i, 0 < i → i < 8 → oneOk E K i = true := by
  unfold treeOk
  rw [List.all_eq_true]
  constructor
  · intro h i h0 h8
    have := h (i - 1) (List.mem_range.2 (by omega))
    rwa [show i - 1 + 1 = i by omega] at this
  · intro h j hj
    have := List.mem_range.1 hj
    exact h _ (by omega) (by omega)

/-- What was found so often as it is wanted. -/
def once (F : Nat → Nat) (K : Nat → Int) (i : Nat) : Bool := decide (F i = if K i = 0 then 0 else 1)
def onceAll (F : Nat → Nat) (K : Nat → Int) : Bool := (List.range 7).all fun j => once F K (j + 1)
theorem onceAll_iff {F : Nat → Nat} {K : Nat → Int} : onceAll F K = true ↔ ∀ i, 0 < i → i < 8 → once F K i = true := by
  unfold onceAll
  rw [List.all_eq_true]
  constructor
  · intro h i h0 h8
    have := h (i - 1) (List.mem_range.2 (by omega))
    rwa [show i - 1 + 1 = i by omega] at this
  · intro h j hj
    have := List.mem_range.1 hj
    exact h _ (by omega) (by omega)

def sep (d : Nat) : ByteArray := if d = 0 then ⟨#[]⟩ else ⟨#[47]⟩
/-- An inode is come to from 0 by so many steps, and by this path. -/
def At (E : Nat → List Ent) : Nat → Nat → ByteArray → Prop
  | x, 0, p => x = 0 ∧ p = ⟨#[47]⟩
  | x, k + 1, p => ∃ d q nm, At E d k q ∧ ((x : Int), nm) ∈ E d ∧ p = q ++ sep d ++ nm
theorem At.zero {E : Nat → List Ent} : At E 0 0 ⟨#[47]⟩ := ⟨rfl, rfl⟩
theorem At.down {E : Nat → List Ent} {d k : Nat} {q : ByteArray} {x : Nat} {nm : ByteArray} (h : At E d k q) (hm : ((x : Int), nm) ∈ E d) : At E x (k + 1) (q ++ sep d ++ nm) := ⟨d, q, nm, h, hm, rfl⟩
theorem At.or {E : Nat → List Ent} {x : Nat} {p : ByteArray} : ∀ {k : Nat}, At E x k p → (x = 0 ∧ k = 0 ∧ p = ⟨#[47]⟩) ∨ ∃ d k' q nm, k = k' + 1 ∧ At E d k' q ∧ ((x : Int), nm) ∈ E d ∧ p = q ++ sep d ++ nm
  | 0, h => Or.inl ⟨h.1, rfl, h.2⟩
  | k + 1, ⟨d, q, nm, h, hm, e⟩ => Or.inr ⟨d, k, q, nm, rfl, h, hm, e⟩
theorem At.ind {E : Nat → List Ent} {motive : (x k : Nat) → (p : ByteArray) → At E x k p → Prop} (zero : motive 0 0 ⟨#[47]⟩ At.zero) (down : ∀ {d k : Nat} {q : ByteArray} {x : Nat} {nm : ByteArray} (hd : At E d k q) (hm : ((x : Int), nm) ∈ E d), motive d k q hd → motive x (k + 1) (q ++ sep d ++ nm) (At.down hd hm)) : ∀ {x k : Nat} {p : ByteArray} (h : At E x k p), motive x k p h
  | x, 0, p, h => by
    obtain ⟨rfl, rfl⟩ := h
    exact zero
  | x, k + 1, p, h => by
    obtain ⟨d, q, nm, hd, hm, rfl⟩ := h
    exact down hd hm (At.ind zero down hd)

def onS (S : List (Nat × Nat)) (d : Nat) : Nat := (S.filter fun q => q.1 == d).length
def metIn (S : List (Nat × Nat)) (d : Nat) : Bool := S.any fun q => q.1 == d
def heads (l : List Ent) (x : Nat) : Nat := (l.filter fun e => e.1 == (x : Int)).length
def part (E : Nat → List Ent) (S : List (Nat × Nat)) (x : Nat) : Nat := (S.map fun q => heads ((E q.1).take q.2) x).sum
def sumC (E : Nat → List Ent) (c : Nat → Nat) (x : Nat) : Nat := ((own (flat E 8) x).map fun p => c p.1).sum

def Chain (E : Nat → List Ent) : List (Nat × Nat) → Prop
  | [] => True
  | [q] => q.1 = 0
  | q :: q' :: r => (∃ nm, ((q.1 : Int), nm) ∈ E q'.1) ∧ 0 < q.1 ∧ Chain E (q' :: r)

/-- The walk's state: the stack (its top first), how often each was found, the paths. -/
structure Inv (E : Nat → List Ent) (K : Nat → Int) (S : List (Nat × Nat)) (F : Nat → Nat) (P : Nat → ByteArray) : Prop where
  lt : ∀ q ∈ S, q.1 < 8 ∧ q.2 ≤ (E q.1).length
  nodup : (S.map (·.1)).Nodup
  chain : Chain E S
  cnt : ∃ c : Nat → Nat, (∀ x : Nat, F x = sumC E c x + part E S x) ∧ (∀ d, K d = 2 → 0 < d → c d + onS S d = F d) ∧ c 0 + onS S 0 = 1
  at_ : ∀ x, 0 < F x → ∃ k, k ≤ 8 ∧ At E x k (P x)
  atS : ∀ S1 q S2, S = S1 ++ q :: S2 → At E q.1 S2.length (P q.1)
  zero : P 0 = ⟨#[47]⟩

variable {E : Nat → List Ent} {K : Nat → Int} {S R : List (Nat × Nat)} {F : Nat → Nat} {P : Nat → ByteArray} {d n x : Nat}

theorem Inv.len (h : Inv E K S F P) : S.length ≤ 8 := by
  have := List.Nodup.length_le_of_subset (l₂ := List.range 8) h.nodup (fun y hy => by
    obtain ⟨q, hq, rfl⟩ := List.mem_map.1 hy
    exact List.mem_range.2 (h.lt q hq).1)
  simpa using this

theorem sumC_zero (x : Nat) : sumC E (fun _ => 0) x = 0 := by
  unfold sumC
  induction own (flat E 8) x with
  | nil => rfl
  | cons a l ih => simp [ih]

theorem start : Inv E K [(0, 0)] (fun _ => 0) (fun i => if i = 0 then ⟨#[47]⟩ else ⟨#[]⟩) := by
  refine ⟨fun q hq => ?_, by simp, rfl, ⟨fun _ => 0, fun x => ?_, fun d _ hd => ?_, rfl⟩, fun x h => absurd h (by omega), fun S1 q S2 e => ?_, rfl⟩
  · simp only [List.mem_singleton] at hq
    subst hq
    exact ⟨by decide, Nat.zero_le _⟩
  · rw [sumC_zero]
    simp [part, heads]
  · have : onS [(0, 0)] d = 0 := by
      have : ¬ (0 = d) := by omega
      simp [onS, this]
    rw [this]
  · rcases S1 with _ | ⟨a, _ | ⟨b, l⟩⟩
    · simp only [List.nil_append, List.cons.injEq] at e
      obtain ⟨rfl, rfl⟩ := e
      exact At.zero
    · simp at e
    · simp at e

theorem heads_step (l : List Ent) (k y : Nat) (h : k < l.length) : heads (l.take (k + 1)) y = heads (l.take k) y + if (T0.ent l k).1 = (y : Int) then 1 else 0 := by
  unfold heads
  rw [List.take_succ_eq_append_getElem h, List.filter_append, List.length_append, T0.ent_get _ _ h]
  by_cases e : l[k].1 = (y : Int) <;> simp [e]

theorem metIn_no (h : metIn S x = false) : ∀ q ∈ S, q.1 ≠ x := by
  intro q hq e
  have := List.any_eq_false.1 h q hq
  simp [e] at this
theorem onS_no (h : metIn S x = false) : onS S x = 0 := by
  unfold onS
  rw [List.length_eq_zero_iff, List.filter_eq_nil_iff]
  intro q hq
  have := metIn_no h q hq
  simpa using this

theorem onS_top (d n m : Nat) (R : List (Nat × Nat)) (y : Nat) : onS ((d, n) :: R) y = onS ((d, m) :: R) y := by
  unfold onS
  by_cases e : d = y <;> simp [List.filter_cons, e]

def upF (F : Nat → Nat) (x : Nat) : Nat → Nat := fun y => if y = x then F y + 1 else F y
def upP (P : Nat → ByteArray) (x : Nat) (p : ByteArray) : Nat → ByteArray := fun y => if y = x then p else P y

theorem mem_ent {l : List Ent} {k : Nat} (h : k < l.length) : T0.ent l k ∈ l := by
  rw [T0.ent_get _ _ h]
  exact List.getElem_mem h

theorem suffix_cons {a b : Nat × Nat} {R S1 S2 : List (Nat × Nat)} {q : Nat × Nat} (e : a :: R = S1 ++ q :: S2) : (S1 = [] ∧ q = a ∧ S2 = R) ∨ ∃ S3, S1 = a :: S3 ∧ b :: R = (b :: S3) ++ q :: S2 := by
  rcases S1 with _ | ⟨y, S3⟩
  · simp only [List.nil_append, List.cons.injEq] at e
    exact Or.inl ⟨rfl, e.1.symm, e.2.symm⟩
  · simp only [List.cons_append, List.cons.injEq] at e
    obtain ⟨rfl, rfl⟩ := e
    exact Or.inr ⟨S3, rfl, rfl⟩

theorem chain_top {a b : Nat × Nat} (e : a.1 = b.1) (h : Chain E (a :: R)) : Chain E (b :: R) := by
  cases R with
  | nil =>
    have : a.1 = 0 := h
    exact (e.symm.trans this : b.1 = 0)
  | cons q r =>
    obtain ⟨h1, h2, h3⟩ := h
    exact ⟨e ▸ h1, e ▸ h2, h3⟩

/-- The parts that both kinds of an entry share. -/
theorem step_at (h : Inv E K ((d, n) :: R) F P) (hn : n < (E d).length) (hx : (T0.ent (E d) n).1 = (x : Int)) (hm : metIn ((d, n) :: R) x = false) :
    At E x (R.length + 1) (P d ++ sep d ++ (T0.ent (E d) n).2) := by
  refine At.down (h.atS [] (d, n) R rfl) ?_
  have := mem_ent hn
  rw [← hx]
  exact this

theorem step_old (h : Inv E K ((d, n) :: R) F P) (hm : metIn ((d, n) :: R) x = false) (p : ByteArray) (S1 : List (Nat × Nat)) (q : Nat × Nat) (S2 : List (Nat × Nat)) (e : (d, n + 1) :: R = S1 ++ q :: S2) : At E q.1 S2.length (upP P x p q.1) := by
  have hne := metIn_no hm
  rcases suffix_cons (b := (d, n)) e with ⟨rfl, rfl, rfl⟩ | ⟨S3, rfl, e'⟩
  · have h1 := hne (d, n) (by simp)
    have h2 := h.atS [] (d, n) S2 rfl
    rw [upP, if_neg h1]
    exact h2
  · have h1 := hne q (by rw [e']; simp)
    have h2 := h.atS _ q S2 e'
    rw [upP, if_neg h1]
    exact h2

theorem step_cnt (h : Inv E K ((d, n) :: R) F P) (hn : n < (E d).length) (hx : (T0.ent (E d) n).1 = (x : Int)) (c : Nat → Nat) (hc : ∀ y : Nat, F y = sumC E c y + part E ((d, n) :: R) y) (y : Nat) : upF F x y = sumC E c y + part E ((d, n + 1) :: R) y := by
  have e := hc y
  have hs := heads_step (E d) n y hn
  rw [hx] at hs
  simp only [part, List.map_cons, List.sum_cons] at e ⊢
  rw [hs, upF]
  by_cases hy : y = x
  · subst hy
    rw [if_pos rfl, if_pos rfl]
    omega
  · have : ¬ ((x : Int) = (y : Int)) := by omega
    rw [if_neg hy, if_neg this]
    omega

theorem step_found (h : Inv E K ((d, n) :: R) F P) (hn : n < (E d).length) (hx : (T0.ent (E d) n).1 = (x : Int)) (hm : metIn ((d, n) :: R) x = false) : ∀ y, 0 < upF F x y → ∃ k, k ≤ 8 ∧ At E y k (upP P x (P d ++ sep d ++ (T0.ent (E d) n).2) y) := by
  intro y hy
  by_cases e : y = x
  · subst e
    refine ⟨R.length + 1, by have := h.len; simpa using this, ?_⟩
    rw [upP, if_pos rfl]
    exact step_at h hn hx hm
  · rw [upF, if_neg e] at hy
    rw [upP, if_neg e]
    exact h.at_ y hy

/-- An entry that is no directory. -/
theorem Inv.file (h : Inv E K ((d, n) :: R) F P) (hn : n < (E d).length) (hx : (T0.ent (E d) n).1 = (x : Int)) (hm : metIn ((d, n) :: R) x = false) (hK : ¬ K x = 2) (h0 : 0 < x) :
    Inv E K ((d, n + 1) :: R) (upF F x) (upP P x (P d ++ sep d ++ (T0.ent (E d) n).2)) := by
  obtain ⟨c, h1, h2, h3⟩ := h.cnt
  refine ⟨fun q hq => ?_, h.nodup, chain_top (a := (d, n)) rfl h.chain, ⟨c, step_cnt h hn hx c h1, fun d' hd hp => ?_, by rw [onS_top d (n + 1) n]; exact h3⟩, step_found h hn hx hm, step_old h hm _, by rw [upP, if_neg (by omega)]; exact h.zero⟩
  · rcases List.mem_cons.1 hq with rfl | hq
    · exact ⟨(h.lt (d, n) (by simp)).1, hn⟩
    · exact h.lt q (List.mem_cons_of_mem _ hq)
  · have e : d' ≠ x := fun e => hK (e ▸ hd)
    rw [upF, if_neg e, onS_top d (n + 1) n]
    exact h2 d' hd hp

/-- An entry that is a directory. -/
theorem Inv.dir (h : Inv E K ((d, n) :: R) F P) (hn : n < (E d).length) (hx : (T0.ent (E d) n).1 = (x : Int)) (hm : metIn ((d, n) :: R) x = false) (hK : K x = 2) (h0 : 0 < x) (h8 : x < 8) :
    Inv E K ((x, 0) :: (d, n + 1) :: R) (upF F x) (upP P x (P d ++ sep d ++ (T0.ent (E d) n).2)) := by
  obtain ⟨c, h1, h2, h3⟩ := h.cnt
  have hne := metIn_no hm
  refine ⟨fun q hq => ?_, ?_, ⟨⟨(T0.ent (E d) n).2, ?_⟩, h0, chain_top (a := (d, n)) rfl h.chain⟩, ⟨c, fun y => ?_, fun d' hd hp => ?_, ?_⟩, step_found h hn hx hm, fun S1 q S2 e => ?_, by rw [upP, if_neg (by omega)]; exact h.zero⟩
  · rcases List.mem_cons.1 hq with rfl | hq
    · exact ⟨h8, Nat.zero_le _⟩
    · rcases List.mem_cons.1 hq with rfl | hq
      · exact ⟨(h.lt (d, n) (by simp)).1, hn⟩
      · exact h.lt q (List.mem_cons_of_mem _ hq)
  · rw [List.map_cons, List.nodup_cons]
    refine ⟨fun hmem => ?_, h.nodup⟩
    have hmem' : x ∈ ((d, n) :: R).map (·.1) := hmem
    obtain ⟨q, hq, e⟩ := List.mem_map.1 hmem'
    exact hne q hq e
  · have := mem_ent hn
    rw [← hx]
    exact this
  · rw [step_cnt h hn hx c h1 y]
    simp [part, heads]
  · have ho : onS ((x, 0) :: (d, n + 1) :: R) d' = (if x = d' then 1 else 0) + onS ((d, n) :: R) d' := by
      unfold onS
      by_cases e1 : x = d' <;> by_cases e2 : d = d' <;> simp [List.filter_cons, e1, e2] <;> omega
    rw [ho, upF]
    have := h2 d' hd hp
    by_cases e : d' = x
    · rw [if_pos e, if_pos e.symm]
      omega
    · rw [if_neg e, if_neg (fun e' => e e'.symm)]
      omega
  · have ho : onS ((x, 0) :: (d, n + 1) :: R) 0 = onS ((d, n) :: R) 0 := by
      have : ¬ (x = 0) := by omega
      unfold onS
      by_cases e2 : d = 0 <;> simp [List.filter_cons, this, e2]
    rw [ho]
    exact h3
  · rcases S1 with _ | ⟨y, S3⟩
    · simp only [List.nil_append, List.cons.injEq] at e
      obtain ⟨rfl, rfl⟩ := e
      simp only [List.length_cons]
      rw [upP, if_pos rfl]
      exact step_at h hn hx hm
    · simp only [List.cons_append, List.cons.injEq] at e
      obtain ⟨rfl, e⟩ := e
      exact step_old h hm _ S3 q S2 e

theorem heads_flat (d y : Nat) : ∀ m, ((own (flat E m) y).filter fun p => p.1 == d).length = if d < m then heads (E d) y else 0
  | 0 => by simp [flat, own]
  | m + 1 => by
    have ih := heads_flat d y m
    unfold own at ih ⊢
    rw [flat, List.filter_append, List.filter_append, List.length_append, ih]
    have e : ((((E m).map fun e => (m, e)).filter fun p => p.2.1 == (y : Int)).filter fun p => p.1 == d).length = if m = d then heads (E d) y else 0 := by
      rw [List.filter_map, List.filter_map, List.length_map]
      by_cases e : m = d
      · subst e
        rw [if_pos rfl]
        unfold heads
        rw [List.filter_filter]
        simp [Function.comp_def]
      · rw [if_neg e, List.length_eq_zero_iff, List.filter_eq_nil_iff]
        intro a _
        simpa [Function.comp_def] using e
    rw [e]
    by_cases h1 : d < m
    · rw [if_pos h1, if_neg (by omega), if_pos (by omega)]
      rfl
    · by_cases h2 : m = d
      · rw [if_neg h1, if_pos h2, if_pos (by omega)]
        omega
      · rw [if_neg h1, if_neg h2, if_neg (by omega)]

theorem sum_up (c : Nat → Nat) (d : Nat) (l : List (Nat × Ent)) : (l.map fun p => (fun i => if i = d then c i + 1 else c i) p.1).sum = (l.map fun p => c p.1).sum + (l.filter fun p => p.1 == d).length := by
  induction l with
  | nil => rfl
  | cons a l ih =>
    simp only [List.map_cons, List.sum_cons] at ih ⊢
    rw [ih, List.filter_cons]
    by_cases e : a.1 = d
    · simp [e]
      omega
    · simp [e]
      omega

theorem sumC_up (c : Nat → Nat) (hd : d < 8) (y : Nat) : sumC E (fun i => if i = d then c i + 1 else c i) y = sumC E c y + heads (E d) y := by
  have := sum_up c d (own (flat E 8) y)
  rw [heads_flat, if_pos hd] at this
  exact this

/-- A directory is left. -/
theorem Inv.pop (h : Inv E K ((d, n) :: R) F P) (hn : ¬ n < (E d).length) : Inv E K R F P := by
  obtain ⟨c, h1, h2, h3⟩ := h.cnt
  have hl := h.lt (d, n) (by simp)
  have hnd : d ∉ R.map (·.1) ∧ (R.map (·.1)).Nodup := by
    have := h.nodup
    rw [List.map_cons, List.nodup_cons] at this
    exact this
  have h0 : onS R d = 0 := by
    unfold onS
    rw [List.length_eq_zero_iff, List.filter_eq_nil_iff]
    intro q hq e
    exact hnd.1 (List.mem_map.2 ⟨q, hq, by simpa using e⟩)
  have hon : ∀ d', onS ((d, n) :: R) d' = (if d' = d then 1 else 0) + onS R d' := by
    intro d'
    unfold onS
    by_cases e : d' = d
    · subst e
      simp
      omega
    · have : ¬ (d = d') := fun e' => e e'.symm
      simp [List.filter_cons, e, this]
  refine ⟨fun q hq => h.lt q (List.mem_cons_of_mem _ hq), hnd.2, ?_, ⟨fun i => if i = d then c i + 1 else c i, fun y => ?_, fun d' hd hp => ?_, ?_⟩, h.at_, fun S1 q S2 e => h.atS ((d, n) :: S1) q S2 (by rw [e]; rfl), h.zero⟩
  · cases R with
    | nil => exact trivial
    | cons q r => exact h.chain.2.2
  · have e := h1 y
    rw [sumC_up c hl.1]
    simp only [part, List.map_cons, List.sum_cons] at e ⊢
    rw [List.take_of_length_le (by omega)] at e
    omega
  · have := h2 d' hd hp
    rw [hon] at this
    show (if d' = d then c d' + 1 else c d') + onS R d' = F d'
    by_cases e : d' = d
    · rw [if_pos e] at this ⊢
      omega
    · rw [if_neg e] at this ⊢
      omega
  · rw [hon] at h3
    show (if 0 = d then c 0 + 1 else c 0) + onS R 0 = 1
    by_cases e : 0 = d
    · rw [if_pos e] at h3 ⊢
      omega
    · rw [if_neg e] at h3 ⊢
      omega

/-- What is known of the entries. -/
structure Sane (E : Nat → List Ent) (K : Nat → Int) : Prop where
  dir : ∀ d, E d ≠ [] → K d = 2
  ino : ∀ d e, e ∈ E d → 0 < e.1 ∧ e.1 < 8

theorem sum_one {c : Nat → Nat} {l : List (Nat × Ent)} (h : ∀ p ∈ l, c p.1 = 1) : (l.map fun p => c p.1).sum = l.length := by
  induction l with
  | nil => rfl
  | cons a l ih =>
    simp only [List.map_cons, List.sum_cons, List.length_cons]
    rw [h a (by simp), ih fun p hp => h p (List.mem_cons_of_mem _ hp)]
    omega

theorem par_one {x : Int} {p : Nat × Ent} {l : List (Nat × Ent)} (h : (own l x).length = 1) (hp : p ∈ l) (hx : p.2.1 = x) : par l x = p.1 := by
  have hm : p ∈ own l x := List.mem_filter.2 ⟨hp, by simpa using hx⟩
  rcases ho : own l x with _ | ⟨q, _ | ⟨r, t⟩⟩
  · rw [ho] at h
    simp at h
  · rw [ho] at hm
    simp only [List.mem_singleton] at hm
    subst hm
    unfold par
    rw [ho]
  · rw [ho] at h
    simp at h

theorem mem_flat {e : Ent} (h : e ∈ E d) (hd : d < 8) : (d, e) ∈ flat E 8 := flat_mem.2 ⟨hd, h⟩

/-- A directory that is come to lies among the first eight. -/
theorem At.lt (hS : Sane E K) {k : Nat} {p : ByteArray} (h : At E x k p) : x < 8 := by
  rcases h.or with ⟨rfl, _, _⟩ | ⟨d, k', q, nm, _, _, hm, _⟩
  · decide
  · have := (hS.ino _ _ hm).2
    omega

/-- Where nothing is left on the stack: what was found is as wanted just if the tree is right. -/
theorem Inv.done (h : Inv E K [] F P) (hS : Sane E K) (hK0 : K 0 = 2) : onceAll F K = treeOk E K := by
  obtain ⟨c, h1, h2, h3⟩ := h.cnt
  have h1' : ∀ y : Nat, F y = sumC E c y := fun y => by rw [h1 y]; rfl
  have hc0 : c 0 = 1 := h3
  have h2' : ∀ d, K d = 2 → 0 < d → c d = F d := fun d a b => h2 d a b
  have hown : ∀ (x : Int) (p : Nat × Ent), p ∈ own (flat E 8) x → p.1 < 8 ∧ p.2 ∈ E p.1 ∧ p.2.1 = x ∧ K p.1 = 2 := by
    intro x p hp
    obtain ⟨a, b⟩ := List.mem_filter.1 hp
    obtain ⟨i, e⟩ := p
    have := flat_mem.1 a
    exact ⟨this.1, this.2, by simpa using b, hS.dir _ (List.ne_nil_of_mem this.2)⟩
  apply Bool.eq_iff_iff.2
  constructor
  · intro ho
    have ho' := onceAll_iff.1 ho
    have hF : ∀ i, 0 < i → i < 8 → F i = if K i = 0 then 0 else 1 := fun i a b => by simpa [once] using ho' i a b
    have hc : ∀ d, d < 8 → K d = 2 → c d = 1 := by
      intro d hd hk
      by_cases h0 : d = 0
      · rw [h0]
        exact hc0
      · rw [h2' d hk (by omega), hF d (by omega) hd, hk, if_neg (by decide)]
    have hlen : ∀ y : Nat, F y = (own (flat E 8) y).length := by
      intro y
      rw [h1' y]
      exact sum_one fun p hp => hc _ (hown _ p hp).1 (hown _ p hp).2.2.2
    have huni : ∀ (y : Nat) (p : Nat × Ent), p ∈ own (flat E 8) y → (own (flat E 8) y).length = 1 := by
      intro y p hp
      obtain ⟨a, b, e, _⟩ := hown _ p hp
      have hi := hS.ino _ _ b
      have hy : 0 < y ∧ y < 8 := by omega
      have hne : (own (flat E 8) y).length ≠ 0 := by
        rw [Ne, List.length_eq_zero_iff]
        exact List.ne_nil_of_mem hp
      have := hF y hy.1 hy.2
      rw [← hlen y] at hne ⊢
      rw [this] at hne ⊢
      by_cases hk : K y = 0
      · rw [if_pos hk] at hne
        exact absurd rfl hne
      · rw [if_neg hk]
    have hroot : ∀ {y k : Nat} {p : ByteArray}, At E y k p → ∀ m, k ≤ m → root (par (flat E 8)) m y = true := by
      intro y k p ha
      induction ha using At.ind with
      | zero => exact fun m _ => root_zero _ m
      | @down d k p x nm hd hm ih =>
        intro m hkm
        obtain ⟨m', rfl⟩ : ∃ m', m = m' + 1 := ⟨m - 1, by omega⟩
        have hx := (hS.ino _ _ hm).1
        have hdl := At.lt hS hd
        have hmem := mem_flat hm hdl
        rw [root_pos _ _ _ hx, par_one (p := (d, ((x : Int), nm))) (huni x (d, ((x : Int), nm)) (List.mem_filter.2 ⟨hmem, by simp⟩)) hmem rfl]
        exact ih m' (by omega)
    refine treeOk_iff.2 fun i hi h8 => ?_
    have hFi := hF i hi h8
    unfold oneOk
    by_cases hk : K i = 0
    · have : own (flat E 8) i = [] := by
        rw [if_pos hk, hlen] at hFi
        exact List.length_eq_zero_iff.1 hFi
      have hp := (par_nil _ _).2 this
      simp [hk, hp]
    · rw [if_neg hk] at hFi
      obtain ⟨k, hk8, ha⟩ := h.at_ i (by omega)
      have hr := hroot ha 8 hk8
      have hp : ¬ par (flat E 8) i = -1 := by
        intro e
        have := (par_nil _ _).1 e
        rw [hlen, this] at hFi
        simp at hFi
      rw [hr, Bool.or_true, Bool.and_true, beq_eq_false_iff_ne.2 hk, beq_eq_false_iff_ne.2 hp]
      rfl
  · intro ht
    have ht' := treeOk_iff.1 ht
    have hone : ∀ i, 0 < i → i < 8 → (K i = 0 ↔ par (flat E 8) i = -1) ∧ (K i ≠ 0 → root (par (flat E 8)) 8 i = true) := by
      intro i a b
      have := ht' i a b
      unfold oneOk at this
      simp only [Bool.and_eq_true, beq_iff_eq, Bool.or_eq_true] at this
      refine ⟨?_, fun hk => ?_⟩
      · have e := this.1
        constructor
        · intro hk
          rw [hk] at e
          simpa using e
        · intro hp
          rw [hp] at e
          simpa using e
      · rcases this.2 with hk' | hr
        · exact absurd hk' hk
        · exact hr
    have hup : ∀ m (i : Nat), 0 < i → i < 8 → root (par (flat E 8)) m i = true → F i = 1 := by
      intro m
      induction m with
      | zero =>
        intro i a b hr
        simp only [root, beq_iff_eq] at hr
        omega
      | succ m ih =>
        intro i a b hr
        rw [root_pos _ _ _ (by omega)] at hr
        rcases par_ge (flat E 8) i with hp | hp | ⟨p, hp, hq⟩
        · rw [hp, root_neg _ _ _ (by decide)] at hr
          cases hr
        · rw [hp, root_neg _ _ _ (by decide)] at hr
          cases hr
        · rw [hq] at hr
          obtain ⟨o1, o2, o3, o4⟩ := hown i p (by rw [hp]; simp)
          have hFi : F i = c p.1 := by
            rw [h1' i, sumC, hp]
            simp
          by_cases h0 : p.1 = 0
          · rw [hFi, h0]
            exact hc0
          · rw [hFi, h2' _ o4 (by omega)]
            exact ih _ (by omega) o1 hr
    refine onceAll_iff.2 fun i hi h8 => ?_
    obtain ⟨q1, q2⟩ := hone i hi h8
    unfold once
    by_cases hk : K i = 0
    · rw [if_pos hk]
      have := (par_nil _ _).1 (q1.1 hk)
      simp only [decide_eq_true_eq]
      rw [h1' i, sumC, this]
      rfl
    · rw [if_neg hk]
      simp only [decide_eq_true_eq]
      exact hup 8 i hi h8 (q2 hk)

theorem chain_mem : ∀ {S : List (Nat × Nat)}, Chain E S → ∀ q ∈ S, 0 < q.1 → ∃ S1 q' S2, S = S1 ++ q :: q' :: S2 ∧ ∃ nm, ((q.1 : Int), nm) ∈ E q'.1
  | [], _, q, hq, _ => by simp at hq
  | [a], h, q, hq, h0 => by
    simp only [List.mem_singleton] at hq
    subst hq
    have : q.1 = 0 := h
    omega
  | a :: b :: r, h, q, hq, h0 => by
    obtain ⟨h1, h2, h3⟩ := h
    rcases List.mem_cons.1 hq with rfl | hq
    · exact ⟨[], b, r, rfl, h1⟩
    · obtain ⟨S1, q', S2, e, hm⟩ := chain_mem h3 q hq h0
      exact ⟨a :: S1, q', S2, by rw [e]; rfl, hm⟩

/-- A way that leads back: the tree is not right. -/
theorem Inv.back (h : Inv E K ((d, n) :: R) F P) (hS : Sane E K) (hn : n < (E d).length) (hx : (T0.ent (E d) n).1 = (x : Int)) (hm : metIn ((d, n) :: R) x = true) : treeOk E K = false := by
  cases ht : treeOk E K with
  | false => rfl
  | true =>
    exfalso
    have hen := mem_ent hn
    have hi := hS.ino _ _ hen
    have h0 : 0 < x ∧ x < 8 := by omega
    obtain ⟨q, hq, he⟩ := List.any_eq_true.1 hm
    have he' : q.1 = x := by simpa using he
    obtain ⟨S1, q', S2, hS2, nm, hmem⟩ := chain_mem h.chain q hq (by omega)
    have hd8 := (h.lt (d, n) (by simp)).1
    have hq8 := (h.lt q' (by rw [hS2]; simp)).1
    have hone := treeOk_iff.1 ht x h0.1 h0.2
    have m1 : (d, T0.ent (E d) n) ∈ own (flat E 8) x := List.mem_filter.2 ⟨mem_flat hen hd8, by simpa using hx⟩
    have m2 : (q'.1, ((q.1 : Int), nm)) ∈ own (flat E 8) x := List.mem_filter.2 ⟨mem_flat hmem hq8, by simp [he']⟩
    have hpar : ∃ p, own (flat E 8) x = [p] := by
      unfold oneOk at hone
      simp only [Bool.and_eq_true, beq_iff_eq, Bool.or_eq_true] at hone
      rcases par_ge (flat E 8) x with hp | hp | ⟨p, hp, _⟩
      · rw [(par_nil _ _).1 hp] at m1
        simp at m1
      · rcases hone.2 with hk | hr
        · rw [hk, hp] at hone
          simp at hone
        · rw [root_pos _ _ _ (by omega), hp, root_neg _ _ _ (by decide)] at hr
          cases hr
      · exact ⟨p, hp⟩
    obtain ⟨p, hp⟩ := hpar
    rw [hp] at m1 m2
    simp only [List.mem_singleton] at m1 m2
    have hdq : d = q'.1 := (congrArg Prod.fst m1).trans (congrArg Prod.fst m2).symm
    -- d is the top's inode, and that of q', which lies below q
    have hnd := h.nodup
    rw [hS2] at hnd
    have htop : ∃ T, S1 ++ q :: q' :: S2 = (d, n) :: T := ⟨R, hS2.symm⟩
    rw [List.map_append, List.map_cons, List.map_cons] at hnd
    rcases S1 with _ | ⟨a, S3⟩
    · obtain ⟨T, hT⟩ := htop
      simp only [List.nil_append, List.cons.injEq] at hT
      have : q.1 = d := by rw [hT.1]
      simp only [List.map_nil, List.nil_append, List.nodup_cons, List.mem_cons, not_or] at hnd
      exact hnd.1.1 (this.trans hdq)
    · obtain ⟨T, hT⟩ := htop
      simp only [List.cons_append, List.cons.injEq] at hT
      have : a.1 = d := by rw [hT.1]
      simp only [List.map_cons, List.cons_append, List.nodup_cons, List.mem_append, List.mem_cons, not_or] at hnd
      exact hnd.1.2.2.1 (this.trans hdq)

/-- How much is left to do. -/
def left (E : Nat → List Ent) : List (Nat × Nat) → Nat
  | [] => 0
  | q :: R => ((E q.1).length - q.2 + 1) * 16 ^ (8 - (R.length + 1)) + left E R

theorem left_file (hn : n < (E d).length) : left E ((d, n + 1) :: R) < left E ((d, n) :: R) := by
  simp only [left]
  have : (E d).length - (n + 1) + 1 < (E d).length - n + 1 := by omega
  have hp : 0 < 16 ^ (8 - (R.length + 1)) := Nat.pow_pos (by decide)
  have := Nat.mul_lt_mul_of_pos_right this hp
  omega
theorem left_pop : left E R < left E ((d, n) :: R) := by
  simp only [left]
  have hp : 0 < 16 ^ (8 - (R.length + 1)) := Nat.pow_pos (by decide)
  have := Nat.le_mul_of_pos_left (16 ^ (8 - (R.length + 1))) (n := (E d).length - n + 1) (by omega)
  omega
theorem left_dir (hn : n < (E d).length) (hl : (E x).length ≤ 14) (h8 : R.length + 2 ≤ 8) : left E ((x, 0) :: (d, n + 1) :: R) < left E ((d, n) :: R) := by
  simp only [left, List.length_cons]
  have e : 16 ^ (8 - (R.length + 1)) = 16 * 16 ^ (8 - (R.length + 1 + 1)) := by
    rw [show 8 - (R.length + 1) = (8 - (R.length + 1 + 1)) + 1 by omega, Nat.pow_succ, Nat.mul_comm]
  obtain ⟨m, hm⟩ : ∃ m, (E d).length - (n + 1) + 1 = m := ⟨_, rfl⟩
  have hm' : (E d).length - n + 1 = m + 1 := by omega
  rw [hm, hm', e]
  have hp : 0 < 16 ^ (8 - (R.length + 1 + 1)) := Nat.pow_pos (by decide)
  have hq : ((E x).length - 0 + 1) * 16 ^ (8 - (R.length + 1 + 1)) ≤ 15 * 16 ^ (8 - (R.length + 1 + 1)) := Nat.mul_le_mul_right _ (by omega)
  have : (m + 1) * (16 * 16 ^ (8 - (R.length + 1 + 1))) = m * (16 * 16 ^ (8 - (R.length + 1 + 1))) + 16 * 16 ^ (8 - (R.length + 1 + 1)) := by rw [Nat.succ_mul]
  omega
end Go.Proofs.YtdljajjgppcjpaaGreat.TR
