/- Joined texts: plain facts and contracts, as each part says. -/
import Derived.Test.YtacalabjclclhaaJvC
import Derived.Test.YtacalabjclclhaaJvD
import Derived.Deep.RegionLaw
import Derived.Test.YtacalabjclclhaaJvE
import Derived.Test.YtacalabjclclhaaJtE
import Derived.Test.YtacalabjclclhaaJtD
import Derived.Deep.RegionHeld3

/- The contract of impl.Come, as the given laws call it. -/
namespace Go.Proofs.Ytacalabjclclhaa.Y1
open Go.ChangeShapes Go.WideShapes Go.ChangeAt Go.RowKit
set_option linter.unusedVariables false
set_option linter.unusedSimpArgs false
set_option maxRecDepth 10000

open N0 (Ln)
open N1 (Sl Lists Fit)
open N7 (tv tvs tObj)
open D1 (nodeE)
open J0 (IBuf Own)
open I2 (ints)

/-- Those of a row that are among others. -/
def only (zs al : List Int) : List Int := zs.filter (P0.has al)
/-- What Come answers. -/
def come (mem : ByteArray) (d : Ln) : List Int := if D6.verdict mem d = true then only d.fr (D0.inos (nodeE mem d.ino)) else []

theorem only_yes {zs al : List Int} {k : Nat} (hk : k < zs.length) (h : P0.has al (zs.getD k 0) = true) : only (zs.take (k + 1)) al = only (zs.take k) al ++ [zs.getD k 0] := by
  unfold only
  rw [List.take_succ_eq_append_getElem hk, List.filter_append, P0.getD_get _ _ hk]
  rw [P0.getD_get _ _ hk] at h
  simp [h]
theorem only_no {zs al : List Int} {k : Nat} (hk : k < zs.length) (h : P0.has al (zs.getD k 0) = false) : only (zs.take (k + 1)) al = only (zs.take k) al := by
  unfold only
  rw [List.take_succ_eq_append_getElem hk, List.filter_append]
  rw [P0.getD_get _ _ hk] at h
  simp [h]
theorem only_len (zs al : List Int) (k : Nat) : (only (zs.take k) al).length ≤ zs.length := Nat.le_trans (List.length_filter_le _ _) (by rw [List.length_take]; omega)

/-- A row of entries that lies apart from a row that grows. -/
def Apart (W : World) (be : Option Addr) (es : List T0.Ent) (a : Option Addr) : Prop := T0.Row W be es ∧ (es = [] ∨ ∀ p q, a = some p → be = some q → p.block ≠ q.block)

variable {w W W' : World} {a a' be : Option Addr} {es : List T0.Ent}
theorem Apart.below (h : Apart W be es a) (hb : Below W.heap.size W W') : Apart W' be es a := ⟨h.1.below hb, h.2⟩
theorem Apart.grown {n c n' c' : Nat} (h : Apart W be es a) (hg : W.grownBy W' (Value.slice a n c).ownBlock) (hn : ∀ g, (Value.slice a' n' c').ownBlock = some g → (Value.slice a n c).ownBlock = some g ∨ g = W.heap.size) : Apart W' be es a' := by
  rcases h.1 with h0 | ⟨b, off, rfl, hlt, hc⟩
  · exact ⟨Or.inl h0, Or.inl h0⟩
  · rcases h.2 with h0 | hne
    · exact ⟨Or.inl h0, Or.inl h0⟩
    · have hb : W'.heap[b]? = W.heap[b]? := hg.block b hlt (fun q => by
        cases a with
        | none => cases q
        | some p => exact hne p _ rfl rfl (by simpa [Value.ownBlock] using q.symm))
      refine ⟨Or.inr ⟨b, off, rfl, Nat.lt_of_lt_of_le hlt hg.size, fun j hj => ⟨(World.cell?_of_block (a := ⟨b, off + j * 2, none⟩) hb).trans (hc j hj).1, (World.cell?_of_block (a := ⟨b, off + j * 2 + 1, none⟩) hb).trans (hc j hj).2⟩⟩, Or.inr fun p q hp hq => ?_⟩
      cases hq
      subst hp
      rcases hn p.block rfl with h1 | h1
      · cases a with
        | none => cases h1
        | some p0 =>
          have : p0.block = p.block := by simpa [Value.ownBlock] using h1
          rw [← this]
          exact hne p0 _ rfl rfl
      · show p.block ≠ b
        omega

/-- A block without cells is none of a row's. -/
theorem apart_new {B : Nat} (hR : T0.Row W be es) (hB : W.heap[B]? = some (.cells #[] 3)) : Apart W be es (some ⟨B, 0, none⟩) := by
  rcases hR with h0 | ⟨b, off, rfl, hlt, hc⟩
  · exact ⟨Or.inl h0, Or.inl h0⟩
  · by_cases h0 : es = []
    · exact ⟨Or.inl h0, Or.inl h0⟩
    · refine ⟨Or.inr ⟨b, off, rfl, hlt, hc⟩, Or.inr fun p q hp hq => ?_⟩
      cases hp
      cases hq
      show B ≠ b
      rintro rfl
      have := (hc 0 (List.length_pos_iff.2 h0)).1
      simp [World.cell?, hB] at this

theorem row_one (w : World) (z : Int) : P0.Row (w.alloc (.cells #[.int .i64 z] 3)) (some ⟨w.heap.size, 0, none⟩) [z] := I2.row_of_blk (K0.blk_new (ints [z]) w 3)

set_option maxHeartbeats 1000000 in
theorem impl_Come (mem : ByteArray) (d : Ln) (s : Sl) (w : World) (hms : mem.size ≤ 281474976710656) (hF : Fit d s) (hpo : d.po.length ≤ 1048576) (hfr : d.fr.length ≤ 1048576) (hR : Lists w d s) :
    Calls Try.prog 71 #[.string mem, N1.val d s] w fun e w' => ∃ a c, e = .returned (.slice a (come mem d).length c) ∧ (come mem d).length ≤ c ∧ Own w.heap.size w' a (come mem d) ∧ Below w.heap.size w w' := by
  have l0 := K0.below_new w (.cells #[.int .i64 d.ino, .int .i64 d.cl, .int .i64 d.un, .string d.rc, .slice s.a1 d.pg.length s.c1, .string d.sav, .slice s.a2 d.po.length s.c2, .slice s.a3 d.fr.length s.c3] 67)
  have l1 := l0.alloc l0.size (.cells #[] 3)
  have b0 := J0.ibuf_made (base := w.heap.size) (w.alloc (.cells #[.int .i64 d.ino, .int .i64 d.cl, .int .i64 d.un, .string d.rc, .slice s.a1 d.pg.length s.c1, .string d.sav, .slice s.a2 d.po.length s.c2, .slice s.a3 d.fr.length s.c3] 67)) l0.size
  have k0 := heap_alloc_new (w.alloc (.cells #[.int .i64 d.ino, .int .i64 d.cl, .int .i64 d.un, .string d.rc, .slice s.a1 d.pg.length s.c1, .string d.sav, .slice s.a2 d.po.length s.c2, .slice s.a3 d.fr.length s.c3] 67)) (.cells #[] 3)
  have HK : Hid (∀ W, Below w.heap.size w W → Calls Try.prog 126 #[.string mem, N1.val d s] W fun e w' => ∃ (k o t : Int) (a : Option Addr) (n c : Nat) (ae : Option Addr) (ne ce : Nat) (d' : Ln) (s' : Sl) (be : Option Addr) (n2 c2 : Nat), e = .returned (.tuple #[tv k o t a n c ae ne ce d' s', .slice be n2 c2, .bool (D6.verdict mem d)]) ∧ Below W.heap.size W w' ∧ (D6.verdict mem d = true → d' = d ∧ s' = s ∧ n2 = (nodeE mem d.ino).length ∧ T0.Row w' be (nodeE mem d.ino))) := fun W hb => (D6.lookBack mem d s W hms hF hpo hfr (hR.below hb)).mono fun e w' ⟨k, o, t, a, n, c, ae, ne, ce, d', s', be, n2, c2, he, hb, hy⟩ => ⟨k, o, t, a, n, c, ae, ne, ce, d', s', be, n2, c2, he, hb, fun h => ⟨(hy h).1, (hy h).2.1, (hy h).2.2.2.2.1, (hy h).2.2.2.2.2⟩⟩
  have hr3 : Hid (∀ W, Below w.heap.size w W → P0.Row W s.a3 d.fr) := fun W hb => (hR.below hb).r3
  clear hF
  have hel := D6.nodeE_len mem d.ino
  cases hv : D6.verdict mem d with
  | false =>
    have hco : come mem d = [] := by rw [come, hv]; rfl
    rw [hco]
    rw [hv] at HK
    clear hv hco hel hR
    go_enter Try.func71, Try.ntmps71
    go_wp2_with (go_at_call 126; refine (HK.out _ l1).mono ?_; rintro e w1 ⟨k, o, t, a, n, c, ae, ne, ce, d', s', be, n2, c2, rfl, b1, -⟩)
    go_ret
    exact ⟨_, _, rfl, Nat.le_refl _, Or.inl rfl, (l1.trans (b1.mono l1.size)).alloc (Nat.le_trans l1.size b1.size) _⟩
  | true =>
    have hco : come mem d = only d.fr (D0.inos (nodeE mem d.ino)) := by rw [come, if_pos hv]
    rw [hco]
    rw [hv] at HK
    obtain ⟨es, hes⟩ : ∃ es, nodeE mem d.ino = es := ⟨_, rfl⟩
    rw [hes] at HK hel ⊢
    clear hv hco hR hes
    go_enter Try.func71, Try.ntmps71
    go_wp2_with (go_at_call 126; refine (HK.out _ l1).mono ?_; rintro e w1 ⟨k, o, t, a, n, c, ae, ne, ce, d', s', be, n2, c2, rfl, b1, hy⟩; obtain ⟨ed, es', rfl, rE⟩ := hy rfl; subst d'; subst s'; clear hy; have n2' := K0.below_new w1 (tObj k o t a n c ae ne ce d s))
    have ap : Apart (w1.alloc (tObj k o t a n c ae ne ce d s)) be es (some ⟨w.heap.size + 1, 0, none⟩) := Apart.below (apart_new (B := w.heap.size + 1) rE ((b1.block _ (by simp)).trans (by simpa using k0))) n2'
    have bf : IBuf w.heap.size (w1.alloc (tObj k o t a n c ae ne ce d s)) (some ⟨w.heap.size + 1, 0, none⟩) 0 0 [] := by
      have := (b0.below b1).below n2'
      simpa using this
    have l2 := (l1.trans (b1.mono l1.size)).alloc (Nat.le_trans l1.size b1.size) (tObj k o t a n c ae ne ce d s)
    clear b0 k0 l0 l1 HK
    go_loopw [5, 26] (fun v i w' => ∃ (k n c : Nat) (a : Option Addr), k ≤ d.fr.length ∧ i = .int .i64 k ∧ v = .slice a n c ∧ IBuf w.heap.size w' a n c (only (d.fr.take k) (D0.inos es)) ∧ Apart w' be es a ∧ Below w.heap.size w w') (fun _ i _ => d.fr.length - (intOf i).toNat)
    case atStart => exact ⟨0, 0, 0, _, Nat.zero_le _, rfl, rfl, bf, ap, l2⟩
    case round =>
      obtain ⟨k5, n5, c5, a5, hk, rfl, rfl, hbuf, hap, hbel⟩ := hrel
      clear bf ap l2 rE
      by_cases hlt : k5 < d.fr.length
      · obtain ⟨b, off, hab, _, hc⟩ := (hr3.out _ hbel).get hlt
        have x1 := hc k5 hlt
        have hyes := fun h => only_yes (zs := d.fr) (al := D0.inos es) hlt h
        have hno := fun h => only_no (zs := d.fr) (al := D0.inos es) hlt h
        have hnl : n5 ≤ d.fr.length := by rw [hbuf.1]; exact only_len _ _ _
        obtain ⟨z, ez⟩ : ∃ z, d.fr.getD k5 0 = z := ⟨_, rfl⟩
        rw [ez] at x1 hyes hno
        rw [hab]
        have e1 : (0 : Int) ≤ (k5 : Int) := by omega
        have e2 : (k5 : Int) < (d.fr.length : Int) := by omega
        have hI : Hid (∀ W, T0.Row W be es → Calls Try.prog 128 #[.slice be es.length c2, .int .i64 z] W fun e w' => e = .returned (.bool (P0.has (D0.inos es) z)) ∧ Below W.heap.size W w') := fun W h => D0.hasIno be c2 es z W (by omega) h
        cases h : P0.has (D0.inos es) z with
        | true =>
          have HS : Hid (only (d.fr.take k5) (D0.inos es) ++ [z] = only (d.fr.take (k5 + 1)) (D0.inos es)) := (hyes h).symm
          rw [h] at hI
          clear ez hc hyes hno h
          go_wp2_with (first
            | (go_at_call 128; refine (hI.out _ hap.1).mono ?_; rintro e w6 ⟨rfl, b6⟩; have p6 := (hap.below b6).below (K0.below_new w6 (.cells #[.int .i64 z] 3)); have f6 := (hbuf.below b6).alloc (.cells #[.int .i64 z] 3); have l6 := (hbel.trans (b6.mono hbel.size)).alloc (Nat.le_trans hbel.size b6.size) (.cells #[.int .i64 z] 3))
            | (at_builtin; refine D7.append_rows2 rfl (.tmp 33) (.tmp 35) rfl f6 _ _ [z] (by rfl) (by rfl) (row_one w6 z) (by simp only [List.length_cons, List.length_nil]; omega) l6.size ?_; intro a7 c7 w7 f7 g7 o7))
          have p7 := p6.grown g7 o7
          have l7 := l6.trans (D7.run_below f6 l6.size g7)
          go_roundw
          case rel => exact ⟨k5 + 1, n5 + 1, c7, a7, by omega, by go_num, rfl, by rw [← HS.out]; exact f7, p7, l7⟩
          case measure => simp [intOf]; omega
        | false =>
          have HS : Hid (only (d.fr.take (k5 + 1)) (D0.inos es) = only (d.fr.take k5) (D0.inos es)) := hno h
          rw [h] at hI
          clear ez hc hyes hno h
          go_wp2_with (go_at_call 128; refine (hI.out _ hap.1).mono ?_; rintro e w6 ⟨rfl, b6⟩)
          go_roundw
          case rel => exact ⟨k5 + 1, n5, c5, a5, by omega, by go_num, rfl, by rw [HS.out]; exact hbuf.below b6, hap.below b6, hbel.trans (b6.mono hbel.size)⟩
          case measure => simp [intOf]; omega
      · obtain rfl : k5 = d.fr.length := by omega
        have HF : Hid (IBuf w.heap.size wr a5 n5 c5 (only d.fr (D0.inos es))) := by
          show IBuf _ _ _ _ _ _
          rw [List.take_length] at hbuf
          exact hbuf
        have e9 : decide ((d.fr.length : Int) < (d.fr.length : Int)) = false := by simp
        clear hbuf hap
        go_wp2
        go_ret
        exact ⟨a5, c5, by rw [← HF.out.1]; rfl, by rw [← HF.out.1]; exact HF.out.fits, HF.out.own, hbel⟩
end Go.Proofs.Ytacalabjclclhaa.Y1

/- The contract of spec.l04Add where all are less, and of spec.l05Only, as the given laws call them. -/
namespace Go.Proofs.Ytacalabjclclhaa.Y2
open Go.ChangeShapes Go.WideShapes Go.ChangeAt Go.RowKit
set_option linter.unusedVariables false
set_option linter.unusedSimpArgs false
set_option maxRecDepth 10000

open J0 (IBuf Own)
open I2 (ints)

/-- 'append(list, others...)' as a step of a region that draws its order. -/
theorem step_rows {base n cp : Nat} {p : Option Addr} {W : World} {zs : List Int} {ops : Array Oper} {o : Oper} {A : Act} {K : Act → World → Prop} {Q : Exit → Act → World → Prop} {E : Prop} (hgd : o.guard = none) (sl x : Operand)
    (ho : o.op = .call { callee := .builtin .append, args := #[sl, x], argTypes := #[24, 24] })
    (hbuf : IBuf base W p n cp zs) (ax : Option Addr) (cx : Nat) (xs : List Int) (hs : A.eval sl = .slice p n cp) (hx : A.eval x = .slice ax xs.length cx) (hR : P0.Row W ax xs) (hlen : n + xs.length ≤ 4194304) (hb : base ≤ W.heap.size)
    (h : ∀ a' cap' w', IBuf base w' a' (n + xs.length) cap' (zs ++ xs) → W.grownBy w' (Value.slice p n cp).ownBlock → K (A.put o.dst (.slice a' (n + xs.length) cap')) w') :
    if Region.wanted o (yielded ops A.tmps) = true then Oper.wp Try.prog o A W K Q else E := by
  have hw : Region.wanted o (yielded ops A.tmps) = true := by simp [Region.wanted, hgd]
  rw [if_pos hw]
  obtain ⟨a', cap', w', hrun, r1, r2, r3⟩ := D7.run_rows o.type hbuf ax cx xs hR hlen hb
  exact Lib.wp_append_run _ sl x 24 24 ho _ _ hs hx _ _ hrun (h a' cap' w' r1 r2)

theorem row_grown {W W' : World} {ax : Option Addr} {xs : List Int} {r : Option Nat} (h : P0.Row W ax xs) (hg : W.grownBy W' r) (hne : ∀ p, ax = some p → r ≠ some p.block) : P0.Row W' ax xs := by
  rcases h with h | ⟨b, off, rfl, hlt, hc⟩
  · exact Or.inl h
  · have hb : W'.heap[b]? = W.heap[b]? := hg.block b hlt (fun q => hne _ rfl q.symm)
    exact Or.inr ⟨b, off, rfl, Nat.lt_of_lt_of_le hlt hg.size, fun j hj => (World.cell?_of_block (a := ⟨b, off + j, none⟩) hb).trans (hc j hj)⟩

set_option maxHeartbeats 2000000 in
theorem l04Add (g off c : Nat) (zs : List Int) (x : Int) (w : World) (hn : zs.length ≤ 1048576) (hc : zs.length ≤ c) (hR : P0.Row w (some ⟨g, off, none⟩) zs) (hx : ∀ j, j < zs.length → zs.getD j 0 < x) :
    Calls Try.prog 162 #[.slice (some ⟨g, off, none⟩) zs.length c, .int .i64 x] w fun e w' => ∃ a' c', e = .returned (.slice a' (zs ++ [x]).length c') ∧ IBuf w.heap.size w' a' (zs ++ [x]).length c' (zs ++ [x]) ∧ Below w.heap.size w w' := by
  go_enter Try.func162, Try.ntmps162
  go_wp2
  go_loop [5] (fun i => ∃ k : Nat, k ≤ zs.length ∧ i = .int .i64 k) (fun i => zs.length - (intOf i).toNat)
  case atStart => exact ⟨0, Nat.zero_le _, rfl⟩
  case round =>
    obtain ⟨k, hk, rfl⟩ := hrel
    by_cases hlt : k < zs.length
    · obtain ⟨b, of2, hab, _, hcl⟩ := hR.get hlt
      cases hab
      have x1 := hcl k hlt
      have x2 := hx k hlt
      obtain ⟨z, ez⟩ : ∃ z, zs.getD k 0 = z := ⟨_, rfl⟩
      rw [ez] at x1 x2
      have e1 : (0 : Int) ≤ (k : Int) := by omega
      have e2 : (k : Int) < (zs.length : Int) := by omega
      clear ez hcl hx hR
      go_wp2
      go_round
      case rel => exact ⟨k + 1, by omega, by go_num⟩
      case measure => simp [intOf]; omega
    · obtain rfl : k = zs.length := by omega
      have e9 : decide ((zs.length : Int) < (zs.length : Int)) = false := by simp
      have e1 : (0 : Int) ≤ (zs.length : Int) := by omega
      have e2 : (zs.length : Int) ≤ (c : Int) := by omega
      obtain ⟨E, hE⟩ : ∃ E, Obj.cells #[] 3 = E := ⟨_, rfl⟩
      obtain ⟨X, hX⟩ : ∃ X, Obj.cells #[.int .i64 x] 3 = X := ⟨_, rfl⟩
      have L0 : Below w.heap.size w w.drew := (Below.refl _ _).drew
      have L1 := L0.alloc L0.size (.cells #[] 3)
      have L2 := L1.alloc L1.size (.cells #[.int .i64 x] 3)
      have M1 := L0.alloc L0.size (.cells #[.int .i64 x] 3)
      have L3 := M1.alloc M1.size (.cells #[] 3)
      have B1 := J0.ibuf_made w.drew L0.size
      have B2 := B1.alloc (.cells #[.int .i64 x] 3)
      have B3 := J0.ibuf_made (w.drew.alloc (.cells #[.int .i64 x] 3)) M1.size
      have X2 := Y1.row_one (w.drew.alloc (.cells #[] 3)) x
      have X3 := (Y1.row_one w.drew x).alloc (.cells #[] 3)
      have hq : zs.length + 1 ≤ 4194304 := by omega
      clear hE hX E X
      by_cases hcn : c = zs.length
      · subst c
        clear hx hlt hk hc
        go_wp2
        go_region_law (first
          | (refine step_rows rfl (.tmp 27) (.tmp 30) rfl f8 (some ⟨g, off, none⟩) (0) [] (by simp [Act.eval, Act.put]) (by simp [Act.eval, Act.put]) (Or.inl rfl) (by simp only [List.length_cons, List.length_nil]; omega) l8.size ?_; intro a9 c9 w9 f9 g9; have l9 := l8.trans (D7.run_below f8 l8.size g9))
          | (refine step_rows rfl (.tmp 24) (.tmp 26) rfl f7 _ _ [x] (by simp [Act.eval, Act.put]) (by simp [Act.eval, Act.put]; rfl) x7 (by simp only [List.length_cons, List.length_nil]; omega) l7.size ?_; intro a8 c8 w8 f8 g8; have l8 := l7.trans (D7.run_below f7 l7.size g8))
          | (refine step_rows rfl (.tmp 24) (.tmp 26) rfl (f7.alloc (.cells #[.int .i64 x] 3)) (some ⟨w7.heap.size, 0, none⟩) 1 [x] (by simp [Act.eval, Act.put]) (by simp [Act.eval, Act.put]) (Y1.row_one w7 x) (by simp only [List.length_cons, List.length_nil]; omega) (l7.alloc l7.size _).size ?_; intro a8 c8 w8 f8 g8; have l8 := (l7.alloc l7.size (.cells #[.int .i64 x] 3)).trans (D7.run_below (f7.alloc (.cells #[.int .i64 x] 3)) (l7.alloc l7.size (.cells #[.int .i64 x] 3)).size g8))
          | (refine step_rows rfl (.tmp 20) (.tmp 23) rfl B1 (some ⟨g, off, none⟩) zs.length zs (by simp [Act.eval, Act.put]) (by simp [Act.eval, Act.put]) (hR.below L1) (by omega) L1.size ?_; intro a7 c7 w7 f7 g7; have l7 := L1.trans (D7.run_below B1 L1.size g7))
          | (refine step_rows rfl (.tmp 20) (.tmp 23) rfl B2 (some ⟨g, off, none⟩) zs.length zs (by simp [Act.eval, Act.put]) (by simp [Act.eval, Act.put]) (hR.below L2) (by omega) L2.size ?_; intro a7 c7 w7 f7 g7; have l7 := L2.trans (D7.run_below B2 L2.size g7); have x7 := row_grown X2 g7 (by rintro p ⟨⟩ h; simp [Value.ownBlock] at h))
          | (refine step_rows rfl (.tmp 20) (.tmp 23) rfl B3 (some ⟨g, off, none⟩) zs.length zs (by simp [Act.eval, Act.put]) (by simp [Act.eval, Act.put]) (hR.below L3) (by omega) L3.size ?_; intro a7 c7 w7 f7 g7; have l7 := L3.trans (D7.run_below B3 L3.size g7); have x7 := row_grown X3 g7 (by rintro p ⟨⟩ h; simp [Value.ownBlock] at h)))
        all_goals
          go_wp2
          go_ret
          exact ⟨a9, c9, by rw [List.length_append]; rfl, by simpa using f9, l9⟩
      · clear hx hlt hk
        go_wp2
        go_region_law (first
          | (refine step_rows rfl (.tmp 27) (.tmp 30) rfl f8 (some ⟨g, off + zs.length, none⟩) (c - zs.length) [] (by simp [Act.eval, Act.put]) (by simp [Act.eval, Act.put]) (Or.inl rfl) (by simp only [List.length_cons, List.length_nil]; omega) l8.size ?_; intro a9 c9 w9 f9 g9; have l9 := l8.trans (D7.run_below f8 l8.size g9))
          | (refine step_rows rfl (.tmp 24) (.tmp 26) rfl f7 _ _ [x] (by simp [Act.eval, Act.put]) (by simp [Act.eval, Act.put]; rfl) x7 (by simp only [List.length_cons, List.length_nil]; omega) l7.size ?_; intro a8 c8 w8 f8 g8; have l8 := l7.trans (D7.run_below f7 l7.size g8))
          | (refine step_rows rfl (.tmp 24) (.tmp 26) rfl (f7.alloc (.cells #[.int .i64 x] 3)) (some ⟨w7.heap.size, 0, none⟩) 1 [x] (by simp [Act.eval, Act.put]) (by simp [Act.eval, Act.put]) (Y1.row_one w7 x) (by simp only [List.length_cons, List.length_nil]; omega) (l7.alloc l7.size _).size ?_; intro a8 c8 w8 f8 g8; have l8 := (l7.alloc l7.size (.cells #[.int .i64 x] 3)).trans (D7.run_below (f7.alloc (.cells #[.int .i64 x] 3)) (l7.alloc l7.size (.cells #[.int .i64 x] 3)).size g8))
          | (refine step_rows rfl (.tmp 20) (.tmp 23) rfl B1 (some ⟨g, off, none⟩) c zs (by simp [Act.eval, Act.put]) (by simp [Act.eval, Act.put]) (hR.below L1) (by omega) L1.size ?_; intro a7 c7 w7 f7 g7; have l7 := L1.trans (D7.run_below B1 L1.size g7))
          | (refine step_rows rfl (.tmp 20) (.tmp 23) rfl B2 (some ⟨g, off, none⟩) c zs (by simp [Act.eval, Act.put]) (by simp [Act.eval, Act.put]) (hR.below L2) (by omega) L2.size ?_; intro a7 c7 w7 f7 g7; have l7 := L2.trans (D7.run_below B2 L2.size g7); have x7 := row_grown X2 g7 (by rintro p ⟨⟩ h; simp [Value.ownBlock] at h))
          | (refine step_rows rfl (.tmp 20) (.tmp 23) rfl B3 (some ⟨g, off, none⟩) c zs (by simp [Act.eval, Act.put]) (by simp [Act.eval, Act.put]) (hR.below L3) (by omega) L3.size ?_; intro a7 c7 w7 f7 g7; have l7 := L3.trans (D7.run_below B3 L3.size g7); have x7 := row_grown X3 g7 (by rintro p ⟨⟩ h; simp [Value.ownBlock] at h)))
        all_goals
          go_wp2
          go_ret
          exact ⟨a9, c9, by rw [List.length_append]; rfl, by simpa using f9, l9⟩

theorem ibuf_mono {base base' n c : Nat} {a : Option Addr} {w : World} {zs : List Int} (h : IBuf base w a n c zs) (hb : base' ≤ base) : IBuf base' w a n c zs := by
  refine ⟨h.1, h.2.1, ?_⟩
  rcases h.2.2 with h0 | ⟨g, cap, cur, hv, hg, r⟩
  · exact Or.inl h0
  · exact Or.inr ⟨g, cap, cur, hv, Nat.le_trans hb hg, r⟩

theorem only_lt {zs al : List Int} (h : N0.asc zs = true) {k : Nat} (hk : k < zs.length) : ∀ j, j < (Y1.only (zs.take k) al).length → (Y1.only (zs.take k) al).getD j 0 < zs.getD k 0 := by
  intro j hj
  have hm := (List.mem_filter.1 (N0.getD_mem hj)).1
  obtain ⟨i, hi, e⟩ := List.mem_take_iff_getElem.1 hm
  show (List.filter (P0.has al) (List.take k zs)).getD j 0 < _
  rw [← e, P0.getD_get _ _ hk]
  exact List.pairwise_iff_getElem.1 (N0.asc_iff.1 h) i k (by omega) hk (by omega)

set_option maxHeartbeats 1000000 in
theorem l05Only (a1 a2 : Option Addr) (c1 c2 : Nat) (zs al : List Int) (w : World) (h1 : zs.length ≤ 1048576) (h2 : al.length ≤ 281474976710656) (hasc : N0.asc zs = true) (R1 : P0.Row w a1 zs) (R2 : P0.Row w a2 al) :
    Calls Try.prog 127 #[.slice a1 zs.length c1, .slice a2 al.length c2, .bool true] w fun e w' => ∃ a c, e = .returned (.slice a (Y1.only zs al).length c) ∧ (Y1.only zs al).length ≤ c ∧ Own w.heap.size w' a (Y1.only zs al) ∧ Below w.heap.size w w' := by
  have b0 := J0.ibuf_made w (Nat.le_refl _)
  have l0 := K0.below_new w (.cells #[] 3)
  go_enter Try.func127, Try.ntmps127
  go_wp2
  go_loopw [7, 8] (fun v i w' => ∃ (k n c g : Nat), k ≤ zs.length ∧ i = .int .i64 k ∧ v = .slice (some ⟨g, 0, none⟩) n c ∧ IBuf w.heap.size w' (some ⟨g, 0, none⟩) n c (Y1.only (zs.take k) al) ∧ Below w.heap.size w w') (fun _ i _ => zs.length - (intOf i).toNat)
  case atStart => exact ⟨0, 0, 0, _, Nat.zero_le _, rfl, rfl, b0, l0⟩
  case round =>
    obtain ⟨k, n, c', g, hk, rfl, rfl, hbuf, hbel⟩ := hrel
    clear b0 l0
    by_cases hlt : k < zs.length
    · obtain ⟨b, off, hab, _, hc⟩ := (R1.below hbel).get hlt
      have x1 := hc k hlt
      have hyes := fun h => Y1.only_yes (zs := zs) (al := al) hlt h
      have hno := fun h => Y1.only_no (zs := zs) (al := al) hlt h
      have hln := Y1.only_len zs al k
      have hlt2 := only_lt (al := al) hasc hlt
      obtain ⟨z, ez⟩ : ∃ z, zs.getD k 0 = z := ⟨_, rfl⟩
      rw [ez] at x1 hyes hno hlt2
      have hH : Hid (Calls Try.prog 119 #[.slice a2 al.length c2, .int .i64 z] wr fun e w' => e = .returned (.bool (P0.has al z)) ∧ w' = wr) := N2.hasRow a2 c2 al z wr h2 (R2.below hbel)
      obtain ⟨O, hO⟩ : ∃ O, Y1.only (zs.take k) al = O := ⟨_, rfl⟩
      rw [hO] at hbuf hyes hno hln hlt2
      obtain rfl : n = O.length := hbuf.1
      have hA : Hid (Calls Try.prog 162 #[.slice (some ⟨g, 0, none⟩) O.length c', .int .i64 z] wr fun e w' => ∃ a' c', e = .returned (.slice a' (O ++ [z]).length c') ∧ IBuf wr.heap.size w' a' (O ++ [z]).length c' (O ++ [z]) ∧ Below wr.heap.size wr w') := l04Add g 0 c' O z wr (by omega) hbuf.fits hbuf.own.row hlt2
      rw [hab]
      have e1 : (0 : Int) ≤ (k : Int) := by omega
      have e2 : (k : Int) < (zs.length : Int) := by omega
      cases h : P0.has al z with
      | true =>
        have HS : Hid (O ++ [z] = Y1.only (zs.take (k + 1)) al) := (hyes h).symm
        have HB : Hid _ := hbel
        rw [h] at hH
        clear ez hc hyes hno h hlt2 R1 R2 hO hbuf hasc
        go_wp2_with (first
          | (go_at_call 119; refine (hH.out).mono ?_; rintro e w' ⟨rfl, rfl⟩)
          | (go_at_call 162; refine (hA.out).mono ?_; rintro e w3 ⟨a3, c3, rfl, f3, b3⟩))
        obtain ⟨g3, rfl⟩ : ∃ g3, a3 = some ⟨g3, 0, none⟩ := by
          rcases f3.own with h0 | ⟨g3, e3, _⟩
          · cases O <;> cases h0
          · exact ⟨g3, e3⟩
        go_roundw
        case rel => exact ⟨k + 1, _, c3, g3, by omega, by go_num, rfl, by rw [← HS.out]; rw [List.length_append] at f3; exact ibuf_mono f3 hbel.size, hbel.trans (b3.mono hbel.size)⟩
        case measure => simp [intOf]; omega
      | false =>
        have HS : Hid (Y1.only (zs.take (k + 1)) al = O) := hno h
        rw [h] at hH
        clear ez hc hyes hno h hlt2 R1 R2 hO hasc
        go_wp2_with (go_at_call 119; refine (hH.out).mono ?_; rintro e w' ⟨rfl, rfl⟩)
        go_roundw
        case rel => exact ⟨k + 1, _, c', g, by omega, by go_num, rfl, by rw [HS.out]; exact hbuf, hbel⟩
        case measure => simp [intOf]; omega
    · obtain rfl : k = zs.length := by omega
      have HF : Hid (IBuf w.heap.size wr (some ⟨g, 0, none⟩) n c' (Y1.only zs al)) := by
        show IBuf _ _ _ _ _ _
        rw [List.take_length] at hbuf
        exact hbuf
      have e9 : decide ((zs.length : Int) < (zs.length : Int)) = false := by simp
      clear hbuf R1 R2
      go_wp2
      go_ret
      exact ⟨_, c', by rw [← HF.out.1]; rfl, by rw [← HF.out.1]; exact HF.out.fits, HF.out.own, hbel⟩
end Go.Proofs.Ytacalabjclclhaa.Y2

/- The contract of spec.Come, as the given laws call it. -/
namespace Go.Proofs.Ytacalabjclclhaa.Y3
open Go.ChangeShapes Go.WideShapes Go.ChangeAt Go.RowKit
set_option linter.unusedVariables false
set_option linter.unusedSimpArgs false
set_option maxRecDepth 10000

open N0 (Ln)
open N1 (Sl Lists Fit)
open D1 (nodeE)
open J0 (IBuf Own)
open Y1 (only come)

theorem yes_parts {mem : ByteArray} {d : Ln} (h : D6.verdict mem d = true) : mem.size = 768 ∧ G0.isI (O0.recd mem d.ino) = true ∧ G0.gK (O0.recd mem d.ino) ≠ 0 ∧ N0.asc d.fr = true := by
  unfold D6.verdict at h
  simp only [Bool.and_eq_true] at h
  obtain ⟨h1, h2, h3, h4, -⟩ := h
  unfold N0.loanOk N0.past at h1
  simp only [Bool.and_eq_true] at h1
  unfold D6.like at h4
  simp only [Bool.and_eq_true, decide_eq_true_eq] at h4
  unfold D1.nodeOk at h3
  simp only [Bool.and_eq_true] at h3
  refine ⟨by simpa using h2, h3.1, ?_, ?_⟩
  · rw [h4.1]
    simpa using h1.1.2.1
  · have hf := h1.2.2.2
    unfold N0.freshOk at hf
    split at hf
    · simp only [Bool.and_eq_true] at hf
      exact hf.2.1
    · have : d.fr = [] := by simpa using hf
      rw [this]
      rfl

set_option maxHeartbeats 1000000 in
theorem spec_Come (mem : ByteArray) (d : Ln) (s : Sl) (w : World) (hms : mem.size ≤ 281474976710656) (hF : Fit d s) (hpo : d.po.length ≤ 1048576) (hfr : d.fr.length ≤ 1048576) (hR : Lists w d s) :
    Calls Try.prog 70 #[.string mem, N1.val d s] w fun e w' => ∃ a c, e = .returned (.slice a (come mem d).length c) ∧ (come mem d).length ≤ c ∧ Own w.heap.size w' a (come mem d) ∧ Below w.heap.size w w' := by
  have k0 := N1.lb_new d s w 67
  have l0 := K0.below_new w (.cells #[.int .i64 d.ino, .int .i64 d.cl, .int .i64 d.un, .string d.rc, .slice s.a1 d.pg.length s.c1, .string d.sav, .slice s.a2 d.po.length s.c2, .slice s.a3 d.fr.length s.c3] 67)
  have c0 := k0.c0
  have c1 := k0.c1
  have c2 := k0.c2
  have c3 := k0.c3
  have c4 := k0.c4
  have c5 := k0.c5
  have c6 := k0.c6
  have c7 := k0.c7
  have HV : Hid (∀ W, Below w.heap.size w W → Calls Try.prog 68 #[.string mem, N1.val d s] W fun e w' => e = .returned (.bool (D6.verdict mem d)) ∧ Below W.heap.size W w') := fun W hb => E6.spec_Verdict mem d s W hms hF hpo hfr (hR.below hb)
  have hr3 : Hid (∀ W, Below w.heap.size w W → P0.Row W s.a3 d.fr) := fun W hb => (hR.below hb).r3
  have hel : (D0.inos (nodeE mem d.ino)).length ≤ 13 := by rw [D0.inos_length]; exact D6.nodeE_len mem d.ino
  cases hv : D6.verdict mem d with
  | false =>
    have hco : come mem d = [] := by rw [come, hv]; rfl
    rw [hco]
    rw [hv] at HV
    clear hv hco hel hR hF
    go_enter Try.func70, Try.ntmps70
    go_wp2_with (go_at_call 68; refine (HV.out _ l0).mono ?_; rintro e w1 ⟨rfl, b1⟩)
    go_ret
    exact ⟨_, _, rfl, Nat.le_refl _, Or.inl rfl, (l0.trans (b1.mono l0.size)).alloc (Nat.le_trans l0.size b1.size) _⟩
  | true =>
    obtain ⟨p1, p2, p3, p4⟩ := yes_parts hv
    have HN : Hid (∀ W, Calls Try.prog 125 #[.string mem, N1.val d s] W fun e w' => ∃ a' c', e = .returned (.tuple #[.slice a' (D0.inos (nodeE mem d.ino)).length c', .bool (D7.nowOk mem d.ino)]) ∧ Own W.heap.size w' a' (D0.inos (nodeE mem d.ino)) ∧ Below W.heap.size W w') := fun W => D7.l05Now mem d s W p1 p2 p3
    have hco : come mem d = only d.fr (D0.inos (nodeE mem d.ino)) := by rw [come, if_pos hv]
    rw [hco]
    rw [hv] at HV
    obtain ⟨E, hE⟩ : ∃ E, D0.inos (nodeE mem d.ino) = E := ⟨_, rfl⟩
    obtain ⟨bn, hbn⟩ : ∃ b, D7.nowOk mem d.ino = b := ⟨_, rfl⟩
    rw [hE, hbn] at HN
    rw [hE] at hel ⊢
    have HO : Hid (∀ W c1 c2 a2, P0.Row W s.a3 d.fr → P0.Row W a2 E → Calls Try.prog 127 #[.slice s.a3 d.fr.length c1, .slice a2 E.length c2, .bool true] W fun e w' => ∃ a c, e = .returned (.slice a (only d.fr E).length c) ∧ (only d.fr E).length ≤ c ∧ Own W.heap.size w' a (only d.fr E) ∧ Below W.heap.size W w') := fun W c1 c2 a2 r1 r2 => Y2.l05Only s.a3 a2 c1 c2 d.fr E W hfr (by omega) p4 r1 r2
    clear hv hco hE hbn p1 p2 p3 p4 hR hF
    go_enter Try.func70, Try.ntmps70
    go_wp2_with (first
      | (go_at_call 68; refine (HV.out _ l0).mono ?_; rintro e w1 ⟨rfl, b1⟩; have l1 := l0.trans (b1.mono l0.size); have k1 := k0.below b1; have d0 := k1.c0; have d1 := k1.c1; have d2 := k1.c2; have d3 := k1.c3; have d4 := k1.c4; have d5 := k1.c5; have d6 := k1.c6; have d7 := k1.c7)
      | (go_at_call 125; refine (HN.out _).mono ?_; rintro e w2 ⟨a2, n2, rfl, o2, b2⟩; have l2 := l1.trans (b2.mono l1.size); have e7 := (k1.below b2).c7)
      | (go_at_call 127; refine (HO.out _ _ _ _ (hr3.out _ l2) o2.row).mono ?_; rintro e w3 ⟨a3, n3, rfl, q3, o3, b3⟩))
    go_ret
    exact ⟨a3, n3, rfl, q3, o3.mono l2.size, l2.trans (b3.mono l2.size)⟩
end Go.Proofs.Ytacalabjclclhaa.Y3

/- Rows of ranges, told as their numbers one behind the other; contracts of laws.eqRange, laws.eqRangeS, laws.markRangeS, laws.heldRangeS and laws.markLoan. -/
namespace Go.Proofs.Ytacalabjclclhaa.R5
open Go.ChangeShapes Go.WideShapes Go.ChangeAt Go.RowKit
set_option linter.unusedVariables false
set_option linter.unusedSimpArgs false
set_option maxRecDepth 10000

open I2 (ints)
open J0 (Own)
open M0 (marks part_length part_succ part_zero part_all marks_get grown_refl grown_set)

/-- A row of ranges of a call's own. -/
def RBuf (base : Nat) (w : World) (a : Option Addr) (n cap : Nat) (zs : List Int) : Prop := zs.length = n * 2 ∧ w.ownsRow base 123 2 (.slice a n cap) n (ints zs)

theorem infoR : (Try.prog.info? 123).map (fun i => (i.zero, i.size, i.bytes)) = some (some (.agg #[.int .i64 0, .int .i64 0]), 2, 16) := by kernel_rfl

variable {base n cap : Nat} {a : Option Addr} {w W : World} {zs : List Int}

theorem RBuf.below (h : RBuf base w a n cap zs) (hb : Below w.heap.size w W) : RBuf base W a n cap zs := ⟨h.1, F0.owns_below h.2 hb⟩
theorem RBuf.alloc (h : RBuf base w a n cap zs) (o : Obj) : RBuf base (w.alloc o) a n cap zs := h.below ((Below.refl _ _).alloc (Nat.le_refl _) o)
theorem rbuf_made (w : World) (hb : base ≤ w.heap.size) : RBuf base (w.alloc (.cells #[] 123)) (some ⟨w.heap.size, 0, none⟩) 0 0 [] := ⟨rfl, World.ownsRow_made w #[] 0 hb (Nat.zero_le _) rfl⟩
theorem rbuf_one (w : World) (x y : Int) (hb : base ≤ w.heap.size) : RBuf base (w.alloc (.cells #[.int .i64 x, .int .i64 y] 123)) (some ⟨w.heap.size, 0, none⟩) 1 1 [x, y] :=
  ⟨rfl, rfl, Or.inr ⟨w.heap.size, 1, #[.int .i64 x, .int .i64 y], rfl, hb, heap_alloc_new w _, Nat.le_refl _, by unfold maxLen; omega, rfl, rfl⟩⟩

theorem RBuf.fits (h : RBuf base w a n cap zs) : n ≤ cap := by
  rcases h.2.2 with ⟨h0, h1⟩ | ⟨g, c, cur, hv, _, _, hle, _⟩
  · omega
  · simp at hv
    omega

theorem RBuf.own (h : RBuf base w a n cap zs) : Own base w a zs := by
  rcases h.2.2 with ⟨h0, h1⟩ | ⟨g, c, cur, hv, hg, hc, hle, _, hs, ht⟩
  · left
    exact List.eq_nil_of_length_eq_zero (by rw [h.1, h1])
  · right
    simp at hv
    have hn := h.1
    refine ⟨g, hv.1, hg, ⟨fun j hj => ?_, fun j hj => ?_, (Array.getElem?_eq_some_iff.1 hc).1⟩⟩
    · have hcell : w.cell? ⟨g, j, none⟩ = cur[j]? := by
        unfold World.cell?
        rw [hc]
        simp
      have hj' : j < zs.length := by simpa using hj
      have e1 : (cur.toList.take (n * 2))[j]? = (ints zs)[j]? := by rw [ht]
      rw [List.getElem?_take_of_lt (by omega)] at e1
      rw [hcell, ← Array.getElem?_toList, e1]
      simp [hj']
    · unfold World.frozen?
      rw [hc]
      simp

theorem one_rng (x y : Int) : ∀ u ∈ [Value.int .i64 x, .int .i64 y], u.oneCell' = true := by
  intro u h
  simp at h
  rcases h with rfl | rfl <;> rfl

/-- 'list = append(list, Range{..})'. -/
theorem append_rng {ops : Array Oper} {rest : List Oper} {o : Oper} {A : Act} {Q : Exit → Act → World → Prop} (hgd : o.guard = none) (sl x : Operand)
    (ho : o.op = .call { callee := .builtin .append, args := #[sl, x], argTypes := #[65, 65] })
    (hbuf : RBuf base w a n cap zs) (u v : Int) (hs : A.eval sl = .slice a n cap) (hx : A.eval x = .slice (some ⟨w.heap.size, 0, none⟩) 1 1) (hlen : n + 1 ≤ 1048576) (hb : base ≤ w.heap.size)
    (h : ∀ g' cap' w', RBuf base w' (some ⟨g', 0, none⟩) (n + 1) cap' (zs ++ [u, v]) → Below base w w' → wpList Try.prog ops Q rest (A.put o.dst (.slice (some ⟨g', 0, none⟩) (n + 1) cap')) w') : wpList Try.prog ops Q (o :: rest) A (w.alloc (.cells #[.int .i64 u, .int .i64 v] 123)) := by
  obtain ⟨i0, hi, hz0, hz1, hz2⟩ := info_parts infoR
  have hb2 := hbuf.alloc (.cells #[.int .i64 u, .int .i64 v] 123)
  refine wpList_append_lies _ hgd sl x 65 ho base 123 i0 (.agg #[.int .i64 0, .int .i64 0]) 2 16 Try.underlying65 hi hz0 hz1 hz2 rfl (by omega) _ n _ hs hb2.2 ⟨w.heap.size, 0, none⟩ 1 1 [.int .i64 u, .int .i64 v] hx rfl (World.news_of_block (heap_alloc_new w _)) (one_rng u v) (by omega) (by unfold maxLen; omega) (by omega) (by simp; omega) _ rfl ?_
  intro g' cap' w' ho' hg' _ _
  refine h g' cap' w' ⟨by rw [List.length_append, hbuf.1]; simp; omega, ?_⟩ ?_
  · rw [show ints (zs ++ [u, v]) = ints zs ++ [.int .i64 u, .int .i64 v] by simp]
    exact ho'
  · exact F0.below_grown ((Below.refl _ _).alloc hb _) hg' (fun g hg => (hbuf.2.lt g hg).1) (by simp; omega)

theorem eqRange (x y : Int) (w : World) :
    Calls Try.prog 117 #[.agg #[.int .i64 x, .int .i64 y], .agg #[.int .i64 x, .int .i64 y]] w fun e w' => e = .returned (.bool true) ∧ Below w.heap.size w w' := by
  have hB := K0.below_new w (.cells #[.int .i64 x, .int .i64 y] 123)
  have hB2 := hB.alloc hB.size (.cells #[.int .i64 x, .int .i64 y] 123)
  go_enter Try.func117, Try.ntmps117
  go_wp2
  go_ret
  exact ⟨rfl, hB2⟩

set_option maxHeartbeats 2000000 in
theorem eqRangeS (a1 a2 : Option Addr) (c1 c2 n : Nat) (zs : List Int) (w : World) (hz : zs.length = n * 2) (hn : n ≤ 1048576) (h1 : P0.Row w a1 zs) (h2 : P0.Row w a2 zs) :
    Calls Try.prog 59 #[.slice a1 n c1, .slice a2 n c2] w fun e w' => e = .returned (.bool true) ∧ Below w.heap.size w w' := by
  go_enter Try.func59, Try.ntmps59
  go_wp2
  go_loopw [5] (fun i w' => ∃ k : Nat, k ≤ n ∧ i = .int .i64 k ∧ Below w.heap.size w w') (fun i _ => n - (intOf i).toNat)
  case atStart => exact ⟨0, Nat.zero_le _, rfl, Below.refl _ _⟩
  case round =>
    obtain ⟨k, hk, rfl, hbel⟩ := hrel
    by_cases hlt : k < n
    · obtain ⟨b1, o1, rfl, l1, r1⟩ := (h1.below hbel).get (k := k * 2) (by omega)
      obtain ⟨b2, o2, rfl, l2, r2⟩ := (h2.below hbel).get (k := k * 2) (by omega)
      have y1 := r1 (k * 2) (by omega)
      have y2 := r1 (k * 2 + 1) (by omega)
      have y3 := r2 (k * 2) (by omega)
      have y4 := r2 (k * 2 + 1) (by omega)
      obtain ⟨u, eu⟩ : ∃ u, zs.getD (k * 2) 0 = u := ⟨_, rfl⟩
      obtain ⟨v, ev⟩ : ∃ v, zs.getD (k * 2 + 1) 0 = v := ⟨_, rfl⟩
      rw [eu] at y1 y3
      rw [ev] at y2 y4
      rw [← Nat.add_assoc] at y2 y4
      have e1 : (0 : Int) ≤ (k : Int) := by omega
      have e2 : (k : Int) < (n : Int) := by omega
      have hB := hbel.size
      have hS0 : wr.drew.cell? ⟨b1, o1 + k * 2, none⟩ = some (.int .i64 u) ∧ wr.drew.cell? ⟨b1, o1 + k * 2 + 1, none⟩ = some (.int .i64 v) ∧ wr.drew.cell? ⟨b2, o2 + k * 2, none⟩ = some (.int .i64 u) ∧ wr.drew.cell? ⟨b2, o2 + k * 2 + 1, none⟩ = some (.int .i64 v) := ⟨y1, y2, y3, y4⟩
      clear eu ev r1 r2 h1 h2
      go_wp2
      go_region_held3 (fun W => W.cell? ⟨b1, o1 + k * 2, none⟩ = some (.int .i64 u) ∧ W.cell? ⟨b1, o1 + k * 2 + 1, none⟩ = some (.int .i64 v) ∧ W.cell? ⟨b2, o2 + k * 2, none⟩ = some (.int .i64 u) ∧ W.cell? ⟨b2, o2 + k * 2 + 1, none⟩ = some (.int .i64 v)) (assumption) ((go_at_call 117; refine (eqRange u v _).mono ?_; rintro e w4 ⟨rfl, b4⟩; have hS4 : w4.cell? ⟨b1, o1 + k * 2, none⟩ = some (.int .i64 u) ∧ w4.cell? ⟨b1, o1 + k * 2 + 1, none⟩ = some (.int .i64 v) ∧ w4.cell? ⟨b2, o2 + k * 2, none⟩ = some (.int .i64 u) ∧ w4.cell? ⟨b2, o2 + k * 2 + 1, none⟩ = some (.int .i64 v) := ⟨(b4.cell (p := ⟨b1, o1 + k * 2, none⟩) l1).trans y1, (b4.cell (p := ⟨b1, o1 + k * 2 + 1, none⟩) l1).trans y2, (b4.cell (p := ⟨b2, o2 + k * 2, none⟩) l2).trans y3, (b4.cell (p := ⟨b2, o2 + k * 2 + 1, none⟩) l2).trans y4⟩))
      all_goals
        go_wp2
        go_roundw
        case rel => exact ⟨k + 1, by omega, by go_num, hbel.trans ((show Below wr.heap.size wr w4 from ⟨b4.os, b4.tape, b4.output, b4.size, b4.block⟩).mono hB)⟩
        case measure => simp [intOf]; omega
    · clear h1 h2
      go_wp2
      go_ret
      exact ⟨rfl, hbel⟩

theorem markRangeS (g c n : Nat) (vs : List Value) (w : World) (hz : vs.length = n * 2) (hn : n ≤ 1048576) (hb : K0.Blk g vs w) :
    Calls Try.prog 62 #[.slice (some ⟨g, 0, none⟩) n c, .int .i64 1] w fun e w' => e = .returned (.int .i64 ((1 + n * 2 : Nat) : Int)) ∧ K0.Blk g (ints (marks (n * 2))) w' ∧ w.grownBy w' (some g) := by
  go_enter Try.func62, Try.ntmps62
  go_wp2
  go_loopw [1, 5] (fun q i w' => ∃ k : Nat, k ≤ n ∧ i = .int .i64 k ∧ q = .int .i64 ((1 + k * 2 : Nat) : Int) ∧ K0.Blk g (M0.part vs (k * 2)) w' ∧ w.grownBy w' (some g)) (fun _ i _ => n - (intOf i).toNat)
  case atStart => exact ⟨0, Nat.zero_le _, rfl, rfl, by rw [Nat.zero_mul, part_zero]; exact hb, grown_refl _ _⟩
  case round =>
    obtain ⟨k, hk, rfl, rfl, hblk, hgr⟩ := hrel
    by_cases hlt : k < n
    · have e1 : (0 : Int) ≤ (k : Int) := by omega
      have e2 : (k : Int) < (n : Int) := by omega
      have p1 := part_length vs (k * 2) (by omega)
      have x2 := hblk.cell (k * 2) (by omega)
      have x3 := hblk.free (k * 2) (by omega)
      have x5 := hblk.cell (k * 2 + 1) (by omega)
      have x6 := hblk.free (k * 2 + 1) (by omega)
      obtain ⟨u, x4⟩ : ∃ u, wr.cell? ⟨g, k * 2, none⟩ = some u := ⟨_, x2⟩
      obtain ⟨u', x7⟩ : ∃ u, wr.cell? ⟨g, k * 2 + 1, none⟩ = some u := ⟨_, x5⟩
      have HB : Hid (K0.Blk g (M0.part vs (k * 2 + 1 + 1)) ((wr.setCell ⟨g, k * 2, none⟩ (.int .i64 ((1 + k * 2 : Nat) : Int))).setCell ⟨g, k * 2 + 1, none⟩ (.int .i64 ((1 + (k * 2 + 1) : Nat) : Int)))) := by
        show K0.Blk g _ _
        rw [← part_succ vs (k * 2 + 1) (by omega), ← part_succ vs (k * 2) (by omega)]
        exact (hblk.set (k * 2) _).set (k * 2 + 1) _
      have e5 : ((1 + (k * 2 + 1) : Nat) : Int) = 1 + (k : Int) * 2 + 1 := by omega
      have e6 : ((1 + k * 2 : Nat) : Int) = 1 + (k : Int) * 2 := by omega
      rw [e5, e6] at HB
      rw [e6]
      clear x2 x5 hblk hb p1 e5 e6
      go_wp2
      go_roundw
      case rel => exact ⟨k + 1, by omega, by go_num, by congr 1; omega, by rw [show (k + 1) * 2 = k * 2 + 1 + 1 by omega]; exact HB.out, grown_set (grown_set hgr _) _⟩
      case measure => simp [intOf]; omega
    · obtain rfl : k = n := by omega
      rw [← hz, part_all, hz] at hblk
      clear hb
      go_wp2
      go_ret
      exact ⟨rfl, hblk, hgr⟩

theorem markNone (a : Option Addr) (c : Nat) (w : World) :
    Calls Try.prog 62 #[.slice a 0 c, .int .i64 1] w fun e w' => e = .returned (.int .i64 1) ∧ w' = w := by
  go_enter Try.func62, Try.ntmps62
  go_wp2
  go_loop [1, 5] (fun q i => i = .int .i64 0 ∧ q = .int .i64 1) (fun _ _ => 0)
  case atStart => exact ⟨rfl, rfl⟩
  case round =>
    obtain ⟨rfl, rfl⟩ := hrel
    go_wp2
    go_ret
    exact ⟨rfl, rfl⟩

theorem heldRangeS (g c n : Nat) (w : World) (hn : n ≤ 1048576) (hb : K0.Blk g (ints (marks (n * 2))) w) :
    Calls Try.prog 63 #[.slice (some ⟨g, 0, none⟩) n c, .int .i64 1] w fun e w' => e = .returned (.int .i64 ((1 + n * 2 : Nat) : Int)) ∧ w' = w := by
  go_enter Try.func63, Try.ntmps63
  go_wp2
  go_loop [1, 5] (fun q i => ∃ k : Nat, k ≤ n ∧ i = .int .i64 k ∧ q = .int .i64 ((1 + k * 2 : Nat) : Int)) (fun _ i => n - (intOf i).toNat)
  case atStart => exact ⟨0, Nat.zero_le _, rfl, rfl⟩
  case round =>
    obtain ⟨k, hk, rfl, rfl⟩ := hrel
    by_cases hlt : k < n
    · have e1 : (0 : Int) ≤ (k : Int) := by omega
      have e2 : (k : Int) < (n : Int) := by omega
      have x1 := hb.cell (k * 2) (by simp [marks]; omega)
      rw [marks_get (n * 2) (k * 2) (by omega)] at x1
      have x2 := hb.cell (k * 2 + 1) (by simp [marks]; omega)
      rw [marks_get (n * 2) (k * 2 + 1) (by omega)] at x2
      have e5 : ((1 + (k * 2 + 1) : Nat) : Int) = 1 + (k : Int) * 2 + 1 := by omega
      have e6 : ((1 + k * 2 : Nat) : Int) = 1 + (k : Int) * 2 := by omega
      rw [e5] at x2
      rw [e6] at x1 ⊢
      clear hb e5 e6
      go_wp2
      go_round
      case rel => exact ⟨k + 1, by omega, by go_num, by congr 1; omega⟩
      case measure => simp [intOf]; omega
    · obtain rfl : k = n := by omega
      clear hb
      go_wp2
      go_ret
      exact ⟨rfl, rfl⟩

theorem heldNone (a : Option Addr) (c : Nat) (w : World) :
    Calls Try.prog 63 #[.slice a 0 c, .int .i64 1] w fun e w' => e = .returned (.int .i64 1) ∧ w' = w := by
  go_enter Try.func63, Try.ntmps63
  go_wp2
  go_loop [1, 5] (fun q i => i = .int .i64 0 ∧ q = .int .i64 1) (fun _ _ => 0)
  case atStart => exact ⟨rfl, rfl⟩
  case round =>
    obtain ⟨rfl, rfl⟩ := hrel
    go_wp2
    go_ret
    exact ⟨rfl, rfl⟩

/-- A row of numbers marked from any number on. -/
theorem markAny (g c : Nat) (vs : List Value) (k0 : Nat) (w : World) (hn : vs.length ≤ 1048576) (h0 : k0 ≤ 1099511627776) (hb : K0.Blk g vs w) :
    Calls Try.prog 73 #[.slice (some ⟨g, 0, none⟩) vs.length c, .int .i64 (k0 : Int)] w fun e w' => e = .returned (.int .i64 ((k0 + vs.length : Nat) : Int)) ∧ w.grownBy w' (some g) := by
  go_enter Try.func73, Try.ntmps73
  go_wp2
  go_loopw [1, 5] (fun q i w' => ∃ (k : Nat) (us : List Value), k ≤ vs.length ∧ i = .int .i64 k ∧ q = .int .i64 ((k0 + k : Nat) : Int) ∧ us.length = vs.length ∧ K0.Blk g us w' ∧ w.grownBy w' (some g)) (fun _ i _ => vs.length - (intOf i).toNat)
  case atStart => exact ⟨0, vs, Nat.zero_le _, rfl, rfl, rfl, hb, grown_refl _ _⟩
  case round =>
    obtain ⟨k, us, hk, rfl, rfl, hul, hblk, hgr⟩ := hrel
    by_cases hlt : k < vs.length
    · have e1 : (0 : Int) ≤ (k : Int) := by omega
      have e2 : (k : Int) < (vs.length : Int) := by omega
      have x2 := hblk.cell k (by omega)
      have x3 := hblk.free k (by omega)
      obtain ⟨u, x4⟩ : ∃ u, wr.cell? ⟨g, k, none⟩ = some u := ⟨_, x2⟩
      have HB : Hid (K0.Blk g (us.set k (.int .i64 ((k0 + k : Nat) : Int))) (wr.setCell ⟨g, k, none⟩ (.int .i64 ((k0 + k : Nat) : Int)))) := hblk.set k _
      have HUL : Hid ((us.set k (.int .i64 ((k0 + k : Nat) : Int))).length = vs.length) := by show (us.set k _).length = _; rw [List.length_set]; exact hul
      clear x2 hblk hb hul
      go_wp2
      go_roundw
      case rel => exact ⟨k + 1, _, by omega, by go_num, by go_num, HUL.out, HB.out, grown_set hgr _⟩
      case measure => simp [intOf]; omega
    · obtain rfl : k = vs.length := by omega
      clear hb hblk hul
      go_wp2
      go_ret
      exact ⟨rfl, hgr⟩
end Go.Proofs.Ytacalabjclclhaa.R5
