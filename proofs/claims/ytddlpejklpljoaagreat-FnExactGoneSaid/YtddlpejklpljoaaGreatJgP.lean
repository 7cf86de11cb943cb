/- Joined texts: plain facts and contracts, as each part says. -/
import Derived.Test.YtddlpejklpljoaaGreatJgN
import Derived.Test.YtddlpejklpljoaaGreatJgO
import Derived.Sort.Grow
import Derived.Test.YtddlpejklpljoaaGreatJgB
import Derived.Test.YtddlpejklpljoaaGreatJgE
import Derived.Test.YtddlpejklpljoaaGreatJgD
import Derived.Deep.RegionHeld3
import Derived.Test.YtddlpejklpljoaaGreatJgJ
import Derived.Test.YtddlpejklpljoaaGreatJgA

/- The contract of spec.Come, as the given laws call it. -/
namespace Go.Proofs.YtddlpejklpljoaaGreat.Y3
open Go.ChangeShapes Go.WideShapes Go.ChangeAt Go.RowKit
set_option linter.unusedVariables false
set_option linter.unusedSimpArgs false
set_option maxRecDepth 10000

open N0 (Ln)
open N1 (Sl Lists Fit)
open D1 (nodeE)
open J0 (IBuf Own)
open Y1 (only come)

theorem yes_parts {mem : ByteArray} {d : Ln} (h : D6.verdict mem d = true) : mem.size = 768 ∧ G0.isI (O0.recd mem d.ino) = true ∧ G0.gK (O0.recd mem d.ino) ≠ 0 ∧ N0.asc d.fr = true := by
  unfold D6.verdict at h
  simp only [Bool.and_eq_true] at h
  obtain ⟨h1, h2, h3, h4, -⟩ := h
  unfold N0.loanOk N0.past at h1
  simp only [Bool.and_eq_true] at h1
  unfold D6.like at h4
  simp only [Bool.and_eq_true, decide_eq_true_eq] at h4
  unfold D1.nodeOk at h3
  simp only [Bool.and_eq_true] at h3
  refine ⟨by simpa using h2, h3.1, ?_, ?_⟩
  · rw [h4.1]
    simpa using h1.1.2.1
  · have hf := h1.2.2.2
    unfold N0.freshOk at hf
    split at hf
    · simp only [Bool.and_eq_true] at hf
      exact hf.2.1
    · have : d.fr = [] := by simpa using hf
      rw [this]
      rfl

set_option maxHeartbeats 1000000 in
theorem spec_Come (mem : ByteArray) (d : Ln) (s : Sl) (w : World) (hms : mem.size ≤ 281474976710656) (hF : Fit d s) (hpo : d.po.length ≤ 1048576) (hfr : d.fr.length ≤ 1048576) (hR : Lists w d s) :
    Calls Tryz.prog 27 #[.string mem, N1.val d s] w fun e w' => ∃ a c, e = .returned (.slice a (come mem d).length c) ∧ (come mem d).length ≤ c ∧ Own w.heap.size w' a (come mem d) ∧ Below w.heap.size w w' := by
  have k0 := N1.lb_new d s w 26
  have l0 := K0.below_new w (.cells #[.int .i64 d.ino, .int .i64 d.cl, .int .i64 d.un, .string d.rc, .slice s.a1 d.pg.length s.c1, .string d.sav, .slice s.a2 d.po.length s.c2, .slice s.a3 d.fr.length s.c3] 26)
  have c0 := k0.c0
  have c1 := k0.c1
  have c2 := k0.c2
  have c3 := k0.c3
  have c4 := k0.c4
  have c5 := k0.c5
  have c6 := k0.c6
  have c7 := k0.c7
  have HV : Hid (∀ W, Below w.heap.size w W → Calls Tryz.prog 24 #[.string mem, N1.val d s] W fun e w' => e = .returned (.bool (D6.verdict mem d)) ∧ Below W.heap.size W w') := fun W hb => E6.spec_Verdict mem d s W hms hF hpo hfr (hR.below hb)
  have hr3 : Hid (∀ W, Below w.heap.size w W → P0.Row W s.a3 d.fr) := fun W hb => (hR.below hb).r3
  have hel : (D0.inos (nodeE mem d.ino)).length ≤ 13 := by rw [D0.inos_length]; exact D6.nodeE_len mem d.ino
  cases hv : D6.verdict mem d with
  | false =>
    have hco : come mem d = [] := by rw [come, hv]; rfl
    rw [hco]
    rw [hv] at HV
    clear hv hco hel hR hF
    go_enter Tryz.func27, Tryz.ntmps27
    go_wp2_with (go_at_call 24; refine (HV.out _ l0).mono ?_; rintro e w1 ⟨rfl, b1⟩)
    go_ret
    exact ⟨_, _, rfl, Nat.le_refl _, Or.inl rfl, (l0.trans (b1.mono l0.size)).alloc (Nat.le_trans l0.size b1.size) _⟩
  | true =>
    obtain ⟨p1, p2, p3, p4⟩ := yes_parts hv
    have HN : Hid (∀ W, Calls Tryz.prog 66 #[.string mem, N1.val d s] W fun e w' => ∃ a' c', e = .returned (.tuple #[.slice a' (D0.inos (nodeE mem d.ino)).length c', .bool (D7.nowOk mem d.ino)]) ∧ Own W.heap.size w' a' (D0.inos (nodeE mem d.ino)) ∧ Below W.heap.size W w') := fun W => D7.l05Now mem d s W p1 p2 p3
    have hco : come mem d = only d.fr (D0.inos (nodeE mem d.ino)) := by rw [come, if_pos hv]
    rw [hco]
    rw [hv] at HV
    obtain ⟨E, hE⟩ : ∃ E, D0.inos (nodeE mem d.ino) = E := ⟨_, rfl⟩
    obtain ⟨bn, hbn⟩ : ∃ b, D7.nowOk mem d.ino = b := ⟨_, rfl⟩
    rw [hE, hbn] at HN
    rw [hE] at hel ⊢
    have HO : Hid (∀ W c1 c2 a2, P0.Row W s.a3 d.fr → P0.Row W a2 E → Calls Tryz.prog 68 #[.slice s.a3 d.fr.length c1, .slice a2 E.length c2, .bool true] W fun e w' => ∃ a c, e = .returned (.slice a (only d.fr E).length c) ∧ (only d.fr E).length ≤ c ∧ Own W.heap.size w' a (only d.fr E) ∧ Below W.heap.size W w') := fun W c1 c2 a2 r1 r2 => Y2.l05Only s.a3 a2 c1 c2 d.fr E W hfr (by omega) p4 r1 r2
    clear hv hco hE hbn p1 p2 p3 p4 hR hF
    go_enter Tryz.func27, Tryz.ntmps27
    go_wp2_with (first
      | (go_at_call 24; refine (HV.out _ l0).mono ?_; rintro e w1 ⟨rfl, b1⟩; have l1 := l0.trans (b1.mono l0.size); have k1 := k0.below b1; have d0 := k1.c0; have d1 := k1.c1; have d2 := k1.c2; have d3 := k1.c3; have d4 := k1.c4; have d5 := k1.c5; have d6 := k1.c6; have d7 := k1.c7)
      | (go_at_call 66; refine (HN.out _).mono ?_; rintro e w2 ⟨a2, n2, rfl, o2, b2⟩; have l2 := l1.trans (b2.mono l1.size); have e7 := (k1.below b2).c7)
      | (go_at_call 68; refine (HO.out _ _ _ _ (hr3.out _ l2) o2.row).mono ?_; rintro e w3 ⟨a3, n3, rfl, q3, o3, b3⟩))
    go_ret
    exact ⟨a3, n3, rfl, q3, o3.mono l2.size, l2.trans (b3.mono l2.size)⟩
end Go.Proofs.YtddlpejklpljoaaGreat.Y3

/- What the library's sort does to a row of a call's own: plain facts. -/
namespace Go.Proofs.YtddlpejklpljoaaGreat.Y7
open Go.ChangeShapes Go.WideShapes Go.ChangeAt Go.RowKit
open Go.Sort (Holds putRow grow)
set_option linter.unusedVariables false
set_option linter.unusedSimpArgs false

open I2 (ints)

theorem holds_of {W : World} {g : Nat} {zs : List Int} (h : K0.Blk g (ints zs) W) : Holds (Value.int .i64) W g 0 zs.toArray := by
  intro j hj
  have hj' : j < zs.length := by simpa using hj
  have h1 := h.cell j (by simpa using hj')
  have h2 := h.free j (by simpa using hj')
  refine ⟨?_, by simpa using h2⟩
  rw [Nat.zero_add, h1]
  simp [hj']

theorem blk_of {W : World} {g : Nat} {zs : List Int} (hg : g < W.heap.size) (h : Holds (Value.int .i64) W g 0 zs.toArray) : K0.Blk g (ints zs) W := by
  refine ⟨fun j hj => ?_, fun j hj => ?_, hg⟩
  · have hj' : j < zs.length := by simpa using hj
    have := (h j (by simpa using hj')).1
    rw [Nat.zero_add] at this
    rw [this]
    simp [hj']
  · have hj' : j < zs.length := by simpa using hj
    have := (h j (by simpa using hj')).2
    rwa [Nat.zero_add] at this

/-- The row behind the sort, and what the sort leaves alone. -/
theorem sorted_blk {W : World} {g n : Nat} {zs ys : List Int} {os : Array Obj} (h : K0.Blk g (ints zs) W) (hl : ys.length = zs.length) : K0.Blk g (ints ys) (grow (putRow (Value.int .i64) (Sort.ahead W n) g 0 ys.toArray) os) := by
  have h0 : Holds (Value.int .i64) (Sort.ahead W n) g 0 zs.toArray := Go.Sort.holds_ahead _ _ _ _ _ _ (holds_of h)
  have hlt : g < (putRow (Value.int .i64) (Sort.ahead W n) g 0 ys.toArray).heap.size := by rw [Go.Sort.size_putRow]; exact h.lt
  refine blk_of (by rw [Go.Sort.size_grow]; omega) (Go.Sort.holds_grow _ _ _ _ _ _ hlt (Go.Sort.holds_putRow _ _ _ _ _ _ h0 (by simpa using hl)))

theorem sorted_below {W : World} {g n base : Nat} {ys : List Int} {os : Array Obj} (hb : base ≤ g) (hg : base ≤ W.heap.size) : Below base W (grow (putRow (Value.int .i64) (Sort.ahead W n) g 0 ys.toArray) os) := by
  refine ⟨rfl, rfl, rfl, ?_, fun k hk => ?_⟩
  · rw [Go.Sort.size_grow, Go.Sort.size_putRow]
    exact Nat.le_add_right _ _
  · rw [Go.Sort.heap_grow_old _ _ (by rw [Go.Sort.size_putRow]; exact Nat.lt_of_lt_of_le hk hg)]
    show (W.heap.modify g _)[k]? = W.heap[k]?
    rw [Array.getElem?_modify]
    rw [if_neg (by omega)]
end Go.Proofs.YtddlpejklpljoaaGreat.Y7

/- The contract of impl.Gone, as the given laws call it. -/
namespace Go.Proofs.YtddlpejklpljoaaGreat.Y8
open Go.ChangeShapes Go.WideShapes Go.ChangeAt Go.RowKit
set_option linter.unusedVariables false
set_option linter.unusedSimpArgs false
set_option maxRecDepth 10000

open N0 (Ln)
open N1 (Sl Lists Fit)
open N5 (oldE)
open N7 (tv tvs tObj)
open D1 (nodeE)
open J0 (IBuf Own)
open I2 (ints)
open Y1 (Apart apart_new row_one)
open Y6 (srt kept)

/-- What Gone answers. -/
def gone (mem : ByteArray) (d : Ln) : List Int := if D6.verdict mem d = true then srt (kept false (D0.inos (oldE d)) (D0.inos (nodeE mem d.ino))) else []

theorem kept_yes {b : Bool} {zs al : List Int} {k : Nat} (hk : k < zs.length) (h : P0.has al (zs.getD k 0) = b) : kept b (zs.take (k + 1)) al = kept b (zs.take k) al ++ [zs.getD k 0] := by
  unfold kept
  rw [List.take_succ_eq_append_getElem hk, List.filter_append, P0.getD_get _ _ hk]
  rw [P0.getD_get _ _ hk] at h
  simp [h]
theorem kept_no {b : Bool} {zs al : List Int} {k : Nat} (hk : k < zs.length) (h : P0.has al (zs.getD k 0) = !b) : kept b (zs.take (k + 1)) al = kept b (zs.take k) al := by
  unfold kept
  rw [List.take_succ_eq_append_getElem hk, List.filter_append]
  rw [P0.getD_get _ _ hk] at h
  cases b <;> simp [h]
theorem kept_len (b : Bool) (zs al : List Int) (k : Nat) : (kept b (zs.take k) al).length ≤ zs.length := Nat.le_trans (List.length_filter_le _ _) (by rw [List.length_take]; omega)

theorem sort_own {w : World} {g n c base : Nat} {zs : List Int} (hn : zs.length ≤ 1048576) (hbuf : IBuf base w (some ⟨g, 0, none⟩) n c zs) (hb : base ≤ w.heap.size) :
    Calls Tryz.prog 62 #[.slice (some ⟨g, 0, none⟩) n c] w fun e w' => e = .returned (.tuple #[]) ∧ Own base w' (some ⟨g, 0, none⟩) (srt zs) ∧ Below base w w' := by
  have hlt := hbuf.2.lt g rfl
  obtain rfl : n = zs.length := hbuf.1
  have hH : Go.Sort.Holds (Value.int .i64) w g 0 zs.toArray := by
    rcases hbuf.own with h0 | ⟨g', e, _, hk⟩
    · subst h0
      intro j hj
      exact absurd hj (by simp)
    · cases e
      exact Y7.holds_of hk
  refine (Tryz.slices_Sort_int g 0 c zs w hH hlt.2 (by omega)).mono fun e w' ⟨he, m, os, hw⟩ => ⟨he, ?_, ?_⟩
  · rw [hw, Y6.merge_srt]
    rcases hbuf.own with h0 | ⟨g', e, hg, hk⟩
    · subst h0
      exact Or.inl rfl
    · cases e
      exact Or.inr ⟨g, rfl, hg, Y7.sorted_blk hk (Y6.srt_length zs)⟩
  · rw [hw]
    exact Y7.sorted_below hlt.1 hb

set_option maxHeartbeats 2000000 in
theorem impl_Gone (mem : ByteArray) (d : Ln) (s : Sl) (w : World) (hms : mem.size ≤ 281474976710656) (hF : Fit d s) (hpo : d.po.length ≤ 1048576) (hfr : d.fr.length ≤ 1048576) (hR : Lists w d s) :
    Calls Tryz.prog 22 #[.string mem, N1.val d s] w fun e w' => ∃ a c, e = .returned (.slice a (gone mem d).length c) ∧ (gone mem d).length ≤ c ∧ Own w.heap.size w' a (gone mem d) ∧ Below w.heap.size w w' := by
  have l0 := K0.below_new w (.cells #[.int .i64 d.ino, .int .i64 d.cl, .int .i64 d.un, .string d.rc, .slice s.a1 d.pg.length s.c1, .string d.sav, .slice s.a2 d.po.length s.c2, .slice s.a3 d.fr.length s.c3] 26)
  have l1 := l0.alloc l0.size (.cells #[] 3)
  have b0 := J0.ibuf_made (base := w.heap.size) (w.alloc (.cells #[.int .i64 d.ino, .int .i64 d.cl, .int .i64 d.un, .string d.rc, .slice s.a1 d.pg.length s.c1, .string d.sav, .slice s.a2 d.po.length s.c2, .slice s.a3 d.fr.length s.c3] 26)) l0.size
  have k0 := heap_alloc_new (w.alloc (.cells #[.int .i64 d.ino, .int .i64 d.cl, .int .i64 d.un, .string d.rc, .slice s.a1 d.pg.length s.c1, .string d.sav, .slice s.a2 d.po.length s.c2, .slice s.a3 d.fr.length s.c3] 26)) (.cells #[] 3)
  have HK : Hid (∀ W, Below w.heap.size w W → Calls Tryz.prog 60 #[.string mem, N1.val d s] W fun e w' => ∃ (k o t : Int) (a : Option Addr) (n c : Nat) (ae : Option Addr) (ne ce : Nat) (d' : Ln) (s' : Sl) (be : Option Addr) (n2 c2 : Nat), e = .returned (.tuple #[tv k o t a n c ae ne ce d' s', .slice be n2 c2, .bool (D6.verdict mem d)]) ∧ Below W.heap.size W w' ∧ (D6.verdict mem d = true → ne = (oldE d).length ∧ T0.Row w' ae (oldE d) ∧ n2 = (nodeE mem d.ino).length ∧ T0.Row w' be (nodeE mem d.ino))) := fun W hb => (D6.lookBack mem d s W hms hF hpo hfr (hR.below hb)).mono fun e w' ⟨k, o, t, a, n, c, ae, ne, ce, d', s', be, n2, c2, he, hb, hy⟩ => ⟨k, o, t, a, n, c, ae, ne, ce, d', s', be, n2, c2, he, hb, fun h => (hy h).2.2⟩
  clear hF hR
  have hel := D6.nodeE_len mem d.ino
  have hol := D6.oldE_len d
  cases hv : D6.verdict mem d with
  | false =>
    have hco : gone mem d = [] := by rw [gone, hv]; rfl
    rw [hco]
    rw [hv] at HK
    clear hv hco hel hol
    go_enter Tryz.func22, Tryz.ntmps22
    go_wp2_with (go_at_call 60; refine (HK.out _ l1).mono ?_; rintro e w1 ⟨k, o, t, a, n, c, ae, ne, ce, d', s', be, n2, c2, rfl, b1, -⟩)
    go_ret
    exact ⟨_, _, rfl, Nat.le_refl _, Or.inl rfl, (l1.trans (b1.mono l1.size)).alloc (Nat.le_trans l1.size b1.size) _⟩
  | true =>
    have hco : gone mem d = srt (kept false (D0.inos (oldE d)) (D0.inos (nodeE mem d.ino))) := by rw [gone, if_pos hv]
    rw [hco]
    rw [hv] at HK
    obtain ⟨es, hes⟩ : ∃ es, nodeE mem d.ino = es := ⟨_, rfl⟩
    obtain ⟨us, hus⟩ : ∃ us, oldE d = us := ⟨_, rfl⟩
    rw [hes, hus] at HK
    rw [hes] at hel
    rw [hus] at hol
    rw [hes, hus]
    clear hv hco hes hus
    go_enter Tryz.func22, Tryz.ntmps22
    go_wp2_with (go_at_call 60; refine (HK.out _ l1).mono ?_; rintro e w1 ⟨k, o, t, a, n, c, ae, ne, ce, d', s', be, n2, c2, rfl, b1, hy⟩; obtain ⟨rfl, rU, rfl, rE⟩ := hy rfl; clear hy; have n2' := K0.below_new w1 (tObj k o t a n c ae us.length ce d' s'))
    have hB1 : w1.heap[w.heap.size + 1]? = some (.cells #[] 3) := (b1.block _ (by simp)).trans (by simpa using k0)
    have ap : Apart (w1.alloc (tObj k o t a n c ae us.length ce d' s')) be es (some ⟨w.heap.size + 1, 0, none⟩) := Apart.below (apart_new (B := w.heap.size + 1) rE hB1) n2'
    have aq : Apart (w1.alloc (tObj k o t a n c ae us.length ce d' s')) ae us (some ⟨w.heap.size + 1, 0, none⟩) := Apart.below (apart_new (B := w.heap.size + 1) rU hB1) n2'
    have bf : IBuf w.heap.size (w1.alloc (tObj k o t a n c ae us.length ce d' s')) (some ⟨w.heap.size + 1, 0, none⟩) 0 0 [] := by
      have := (b0.below b1).below n2'
      simpa using this
    have l2 := (l1.trans (b1.mono l1.size)).alloc (Nat.le_trans l1.size b1.size) (tObj k o t a n c ae us.length ce d' s')
    clear b0 k0 l0 l1 HK hB1
    go_loopw [5, 26] (fun v i w' => ∃ (k n c g : Nat), k ≤ us.length ∧ i = .int .i64 k ∧ v = .slice (some ⟨g, 0, none⟩) n c ∧ IBuf w.heap.size w' (some ⟨g, 0, none⟩) n c (kept false ((D0.inos us).take k) (D0.inos es)) ∧ Apart w' be es (some ⟨g, 0, none⟩) ∧ Apart w' ae us (some ⟨g, 0, none⟩) ∧ Below w.heap.size w w') (fun _ i _ => us.length - (intOf i).toNat)
    case atStart => exact ⟨0, 0, 0, _, Nat.zero_le _, rfl, rfl, bf, ap, aq, l2⟩
    case round =>
      obtain ⟨k5, n5, c5, g5, hk, rfl, rfl, hbuf, hap, haq, hbel⟩ := hrel
      clear bf ap aq l2 rE rU
      by_cases hlt : k5 < us.length
      · obtain ⟨b, off, hab, _, hc⟩ := haq.1.get hlt
        have x1 := (hc k5 hlt).1
        have x2 := (hc k5 hlt).2
        have hli : k5 < (D0.inos us).length := by rw [D0.inos_length]; exact hlt
        have hyes := fun h => kept_yes (b := false) (zs := D0.inos us) (al := D0.inos es) hli h
        have hno := fun h => kept_no (b := false) (zs := D0.inos us) (al := D0.inos es) hli h
        have hnl : n5 ≤ us.length := by rw [hbuf.1, ← D0.inos_length us]; exact kept_len _ _ _ _
        rw [D0.inos_get us k5 hlt] at hyes hno
        obtain ⟨z, ez⟩ : ∃ z, T0.ent us k5 = z := ⟨_, rfl⟩
        rw [ez] at x1 x2 hyes hno
        obtain ⟨u, v⟩ := z
        simp only at x1 x2 hyes hno
        have e1 : (0 : Int) ≤ (k5 : Int) := by omega
        have e2 : (k5 : Int) < (us.length : Int) := by omega
        have hI : Hid (∀ W, T0.Row W be es → Calls Tryz.prog 61 #[.slice be es.length c2, .int .i64 u] W fun e w' => e = .returned (.bool (P0.has (D0.inos es) u)) ∧ Below W.heap.size W w') := fun W h => D0.hasIno be c2 es u W (by omega) h
        have n6 := K0.below_new wr (.cells #[.int .i64 u, .string v] 85)
        have q6 := K0.blk_new [.int .i64 u, .string v] wr 85
        have p6 := hap.below n6
        have r6 := haq.below n6
        have f6 := hbuf.below n6
        have l6 := hbel.trans (n6.mono hbel.size)
        cases h : P0.has (D0.inos es) u with
        | false =>
          have HS : Hid (kept false ((D0.inos us).take k5) (D0.inos es) ++ [u] = kept false ((D0.inos us).take (k5 + 1)) (D0.inos es)) := (hyes h).symm
          rw [h] at hI
          clear ez hc hyes hno h haq
          rw [hab] at r6 ⊢
          go_wp2_with (first
            | (go_at_call 61; refine (hI.out _ p6.1).mono ?_; rintro e w7 ⟨rfl, b7⟩; have y0 : w7.cell? ⟨wr.heap.size, 0, none⟩ = some (.int .i64 u) := (q6.below b7).cell 0 (by simp); have n7 := K0.below_new w7 (.cells #[.int .i64 u] 3); have p7 := (p6.below b7).below n7; have r7 := (r6.below b7).below n7; have f7 := (f6.below b7).below n7; have l7 := (l6.trans (b7.mono l6.size)).trans (n7.mono (Nat.le_trans l6.size b7.size)))
            | (at_builtin; refine D7.append_rows2 rfl (.tmp 35) (.tmp 38) rfl f7 _ _ [u] (by rfl) (by rfl) (row_one w7 u) (by simp only [List.length_cons, List.length_nil]; omega) l7.size ?_; intro a8 c8 w8 f8 g8 o8))
          have p8 := p7.grown g8 o8
          have r8 := r7.grown g8 o8
          have l8 := l7.trans (D7.run_below f7 l7.size g8)
          obtain ⟨g9, rfl⟩ : ∃ g9, a8 = some ⟨g9, 0, none⟩ := by
            rcases f8.own with h0 | ⟨g9, e9, _⟩
            · exact absurd (congrArg List.length h0) (by simp)
            · exact ⟨g9, e9⟩
          go_roundw
          case rel => exact ⟨k5 + 1, n5 + 1, c8, g9, by omega, by go_num, rfl, by rw [← HS.out]; exact f8, p8, r8, l8⟩
          case measure => simp [intOf]; omega
        | true =>
          have HS : Hid (kept false ((D0.inos us).take (k5 + 1)) (D0.inos es) = kept false ((D0.inos us).take k5) (D0.inos es)) := hno h
          rw [h] at hI
          clear ez hc hyes hno h haq
          rw [hab] at r6 ⊢
          go_wp2_with (go_at_call 61; refine (hI.out _ p6.1).mono ?_; rintro e w7 ⟨rfl, b7⟩)
          go_roundw
          case rel => exact ⟨k5 + 1, n5, c5, g5, by omega, by go_num, rfl, by rw [HS.out]; exact f6.below b7, p6.below b7, r6.below b7, l6.trans (b7.mono l6.size)⟩
          case measure => simp [intOf]; omega
      · obtain rfl : k5 = us.length := by omega
        have HF : Hid (IBuf w.heap.size wr (some ⟨g5, 0, none⟩) n5 c5 (kept false (D0.inos us) (D0.inos es))) := by
          show IBuf _ _ _ _ _ _
          rw [← D0.inos_length us, List.take_length] at hbuf
          exact hbuf
        have hkl : (kept false (D0.inos us) (D0.inos es)).length ≤ 1048576 := Nat.le_trans (List.length_filter_le _ _) (by rw [D0.inos_length]; omega)
        have e9 : decide ((us.length : Int) < (us.length : Int)) = false := by simp
        clear hbuf hap haq
        go_wp2_with (go_at_call 62; refine (sort_own hkl HF.out hbel.size).mono ?_; rintro e w7 ⟨rfl, o7, b7⟩)
        go_ret
        exact ⟨_, c5, by rw [Y6.srt_length, ← HF.out.1]; rfl, by rw [Y6.srt_length, ← HF.out.1]; exact HF.out.fits, o7, hbel.trans b7⟩
end Go.Proofs.YtddlpejklpljoaaGreat.Y8

/- The contract of spec.Gone, as the given laws call it. -/
namespace Go.Proofs.YtddlpejklpljoaaGreat.Y9
open Go.ChangeShapes Go.WideShapes Go.ChangeAt Go.RowKit
set_option linter.unusedVariables false
set_option linter.unusedSimpArgs false
set_option maxRecDepth 10000

open N0 (Ln)
open N1 (Sl Lists Fit)
open N5 (oldE)
open D1 (nodeE)
open J0 (IBuf Own)
open Y6 (srt kept)
open Y8 (gone)

theorem was_inode {mem : ByteArray} {d : Ln} (h : D6.verdict mem d = true) : G0.isI d.rc = true := by
  unfold D6.verdict at h
  simp only [Bool.and_eq_true] at h
  have h1 := h.1
  unfold N0.loanOk N0.past at h1
  simp only [Bool.and_eq_true] at h1
  exact h1.1.1

set_option maxHeartbeats 1000000 in
theorem spec_Gone (mem : ByteArray) (d : Ln) (s : Sl) (w : World) (hms : mem.size ≤ 281474976710656) (hF : Fit d s) (hpo : d.po.length ≤ 1048576) (hfr : d.fr.length ≤ 1048576) (hrs : d.rc.size ≤ 281474976710656) (hss : d.sav.size ≤ 281474976710656) (hR : Lists w d s) :
    Calls Tryz.prog 26 #[.string mem, N1.val d s] w fun e w' => ∃ a c, e = .returned (.slice a (gone mem d).length c) ∧ (gone mem d).length ≤ c ∧ Own w.heap.size w' a (gone mem d) ∧ Below w.heap.size w w' := by
  have k0 := N1.lb_new d s w 26
  have l0 := K0.below_new w (.cells #[.int .i64 d.ino, .int .i64 d.cl, .int .i64 d.un, .string d.rc, .slice s.a1 d.pg.length s.c1, .string d.sav, .slice s.a2 d.po.length s.c2, .slice s.a3 d.fr.length s.c3] 26)
  have c0 := k0.c0
  have c1 := k0.c1
  have c2 := k0.c2
  have c3 := k0.c3
  have c4 := k0.c4
  have c5 := k0.c5
  have c6 := k0.c6
  have c7 := k0.c7
  have HV : Hid (∀ W, Below w.heap.size w W → Calls Tryz.prog 24 #[.string mem, N1.val d s] W fun e w' => e = .returned (.bool (D6.verdict mem d)) ∧ Below W.heap.size W w') := fun W hb => E6.spec_Verdict mem d s W hms hF hpo hfr (hR.below hb)
  have hel : (D0.inos (nodeE mem d.ino)).length ≤ 13 := by rw [D0.inos_length]; exact D6.nodeE_len mem d.ino
  have hol : (D0.inos (oldE d)).length ≤ 13 := by rw [D0.inos_length]; exact D6.oldE_len d
  cases hv : D6.verdict mem d with
  | false =>
    have hco : gone mem d = [] := by rw [gone, hv]; rfl
    rw [hco]
    rw [hv] at HV
    clear hv hco hel hol hR hF
    go_enter Tryz.func26, Tryz.ntmps26
    go_wp2_with (go_at_call 24; refine (HV.out _ l0).mono ?_; rintro e w1 ⟨rfl, b1⟩)
    go_ret
    exact ⟨_, _, rfl, Nat.le_refl _, Or.inl rfl, (l0.trans (b1.mono l0.size)).alloc (Nat.le_trans l0.size b1.size) _⟩
  | true =>
    obtain ⟨p1, p2, p3, p4⟩ := Y3.yes_parts hv
    have HN : Hid (∀ W, Calls Tryz.prog 66 #[.string mem, N1.val d s] W fun e w' => ∃ a' c', e = .returned (.tuple #[.slice a' (D0.inos (nodeE mem d.ino)).length c', .bool (D7.nowOk mem d.ino)]) ∧ Own W.heap.size w' a' (D0.inos (nodeE mem d.ino)) ∧ Below W.heap.size W w') := fun W => D7.l05Now mem d s W p1 p2 p3
    have HB : Hid (∀ W, Calls Tryz.prog 65 #[N1.val d s] W fun e w' => ∃ a' c', e = .returned (.slice a' (D0.inos (oldE d)).length c') ∧ Own W.heap.size w' a' (D0.inos (oldE d)) ∧ Below W.heap.size W w') := fun W => D7.l05Before d s W hrs hss (was_inode hv)
    have hco : gone mem d = srt (kept false (D0.inos (oldE d)) (D0.inos (nodeE mem d.ino))) := by rw [gone, if_pos hv]
    rw [hco]
    rw [hv] at HV
    obtain ⟨E, hE⟩ : ∃ E, D0.inos (nodeE mem d.ino) = E := ⟨_, rfl⟩
    obtain ⟨U, hU⟩ : ∃ U, D0.inos (oldE d) = U := ⟨_, rfl⟩
    obtain ⟨bn, hbn⟩ : ∃ b, D7.nowOk mem d.ino = b := ⟨_, rfl⟩
    rw [hE, hbn] at HN
    rw [hU] at HB hol
    rw [hE] at hel
    rw [hE, hU]
    have HO : Hid (∀ W a1 c1 c2 a2, P0.Row W a1 U → P0.Row W a2 E → Calls Tryz.prog 68 #[.slice a1 U.length c1, .slice a2 E.length c2, .bool false] W fun e w' => ∃ a c, e = .returned (.slice a (srt (kept false U E)).length c) ∧ (srt (kept false U E)).length ≤ c ∧ Own W.heap.size w' a (srt (kept false U E)) ∧ Below W.heap.size W w') := fun W a1 c1 c2 a2 r1 r2 => Y6.l05Only false a1 a2 c1 c2 U E W (by omega) (by omega) r1 r2
    clear hv hco hE hU hbn p1 p2 p3 p4 hR hF
    go_enter Tryz.func26, Tryz.ntmps26
    go_wp2_with (first
      | (go_at_call 24; refine (HV.out _ l0).mono ?_; rintro e w1 ⟨rfl, b1⟩; have l1 := l0.trans (b1.mono l0.size); have k1 := k0.below b1; have d0 := k1.c0; have d1 := k1.c1; have d2 := k1.c2; have d3 := k1.c3; have d4 := k1.c4; have d5 := k1.c5; have d6 := k1.c6; have d7 := k1.c7)
      | (go_at_call 66; refine (HN.out _).mono ?_; rintro e w2 ⟨a2, n2, rfl, o2, b2⟩; have l2 := l1.trans (b2.mono l1.size); have k2 := k1.below b2; have e0 := k2.c0; have e1 := k2.c1; have e2 := k2.c2; have e3 := k2.c3; have e4 := k2.c4; have e5 := k2.c5; have e6 := k2.c6; have e7 := k2.c7)
      | (go_at_call 65; refine (HB.out _).mono ?_; rintro e w3 ⟨a3, n3, rfl, o3, b3⟩; have l3 := l2.trans (b3.mono l2.size); have r2 := o2.row.below b3)
      | (go_at_call 68; refine (HO.out _ _ _ _ _ o3.row r2).mono ?_; rintro e w4 ⟨a4, n4, rfl, q4, o4, b4⟩))
    go_ret
    exact ⟨a4, n4, rfl, q4, o4.mono l3.size, l3.trans (b4.mono l3.size)⟩
end Go.Proofs.YtddlpejklpljoaaGreat.Y9

/- How long the row is that Gone answers. -/
namespace Go.Proofs.YtddlpejklpljoaaGreat.Y10
theorem gone_le (mem : ByteArray) (d : N0.Ln) : (Y8.gone mem d).length ≤ 1048576 := by
  unfold Y8.gone
  split
  · rw [Y6.srt_length]
    exact Nat.le_trans (List.length_filter_le _ _) (by rw [D0.inos_length]; exact Nat.le_trans (D6.oldE_len d) (by omega))
  · exact Nat.zero_le _
end Go.Proofs.YtddlpejklpljoaaGreat.Y10

/- Rows of ranges, told as their numbers one behind the other; contracts of laws.eqRange, laws.eqRangeS, laws.markRangeS, laws.heldRangeS and laws.markLoan. -/
namespace Go.Proofs.YtddlpejklpljoaaGreat.R5
open Go.ChangeShapes Go.WideShapes Go.ChangeAt Go.RowKit
set_option linter.unusedVariables false
set_option linter.unusedSimpArgs false
set_option maxRecDepth 10000

open I2 (ints)
open J0 (Own)
open M0 (marks part_length part_succ part_zero part_all marks_get grown_refl grown_set)

/-- A row of ranges of a call's own. -/
def RBuf (base : Nat) (w : World) (a : Option Addr) (n cap : Nat) (zs : List Int) : Prop := zs.length = n * 2 ∧ w.ownsRow base 38 2 (.slice a n cap) n (ints zs)

theorem infoR : (Tryz.prog.info? 38).map (fun i => (i.zero, i.size, i.bytes)) = some (some (.agg #[.int .i64 0, .int .i64 0]), 2, 16) := by kernel_rfl

variable {base n cap : Nat} {a : Option Addr} {w W : World} {zs : List Int}

theorem RBuf.below (h : RBuf base w a n cap zs) (hb : Below w.heap.size w W) : RBuf base W a n cap zs := ⟨h.1, F0.owns_below h.2 hb⟩
theorem RBuf.alloc (h : RBuf base w a n cap zs) (o : Obj) : RBuf base (w.alloc o) a n cap zs := h.below ((Below.refl _ _).alloc (Nat.le_refl _) o)
theorem rbuf_made (w : World) (hb : base ≤ w.heap.size) : RBuf base (w.alloc (.cells #[] 38)) (some ⟨w.heap.size, 0, none⟩) 0 0 [] := ⟨rfl, World.ownsRow_made w #[] 0 hb (Nat.zero_le _) rfl⟩
theorem rbuf_one (w : World) (x y : Int) (hb : base ≤ w.heap.size) : RBuf base (w.alloc (.cells #[.int .i64 x, .int .i64 y] 38)) (some ⟨w.heap.size, 0, none⟩) 1 1 [x, y] :=
  ⟨rfl, rfl, Or.inr ⟨w.heap.size, 1, #[.int .i64 x, .int .i64 y], rfl, hb, heap_alloc_new w _, Nat.le_refl _, by unfold maxLen; omega, rfl, rfl⟩⟩

theorem RBuf.fits (h : RBuf base w a n cap zs) : n ≤ cap := by
  rcases h.2.2 with ⟨h0, h1⟩ | ⟨g, c, cur, hv, _, _, hle, _⟩
  · omega
  · simp at hv
    omega

theorem RBuf.own (h : RBuf base w a n cap zs) : Own base w a zs := by
  rcases h.2.2 with ⟨h0, h1⟩ | ⟨g, c, cur, hv, hg, hc, hle, _, hs, ht⟩
  · left
    exact List.eq_nil_of_length_eq_zero (by rw [h.1, h1])
  · right
    simp at hv
    have hn := h.1
    refine ⟨g, hv.1, hg, ⟨fun j hj => ?_, fun j hj => ?_, (Array.getElem?_eq_some_iff.1 hc).1⟩⟩
    · have hcell : w.cell? ⟨g, j, none⟩ = cur[j]? := by
        unfold World.cell?
        rw [hc]
        simp
      have hj' : j < zs.length := by simpa using hj
      have e1 : (cur.toList.take (n * 2))[j]? = (ints zs)[j]? := by rw [ht]
      rw [List.getElem?_take_of_lt (by omega)] at e1
      rw [hcell, ← Array.getElem?_toList, e1]
      simp [hj']
    · unfold World.frozen?
      rw [hc]
      simp

theorem one_rng (x y : Int) : ∀ u ∈ [Value.int .i64 x, .int .i64 y], u.oneCell' = true := by
  intro u h
  simp at h
  rcases h with rfl | rfl <;> rfl

/-- 'list = append(list, Range{..})'. -/
theorem append_rng {ops : Array Oper} {rest : List Oper} {o : Oper} {A : Act} {Q : Exit → Act → World → Prop} (hgd : o.guard = none) (sl x : Operand)
    (ho : o.op = .call { callee := .builtin .append, args := #[sl, x], argTypes := #[30, 30] })
    (hbuf : RBuf base w a n cap zs) (u v : Int) (hs : A.eval sl = .slice a n cap) (hx : A.eval x = .slice (some ⟨w.heap.size, 0, none⟩) 1 1) (hlen : n + 1 ≤ 1048576) (hb : base ≤ w.heap.size)
    (h : ∀ g' cap' w', RBuf base w' (some ⟨g', 0, none⟩) (n + 1) cap' (zs ++ [u, v]) → Below base w w' → wpList Tryz.prog ops Q rest (A.put o.dst (.slice (some ⟨g', 0, none⟩) (n + 1) cap')) w') : wpList Tryz.prog ops Q (o :: rest) A (w.alloc (.cells #[.int .i64 u, .int .i64 v] 38)) := by
  obtain ⟨i0, hi, hz0, hz1, hz2⟩ := info_parts infoR
  have hb2 := hbuf.alloc (.cells #[.int .i64 u, .int .i64 v] 38)
  refine wpList_append_lies _ hgd sl x 30 ho base 38 i0 (.agg #[.int .i64 0, .int .i64 0]) 2 16 Tryz.underlying30 hi hz0 hz1 hz2 rfl (by omega) _ n _ hs hb2.2 ⟨w.heap.size, 0, none⟩ 1 1 [.int .i64 u, .int .i64 v] hx rfl (World.news_of_block (heap_alloc_new w _)) (one_rng u v) (by omega) (by unfold maxLen; omega) (by omega) (by simp; omega) _ rfl ?_
  intro g' cap' w' ho' hg' _ _
  refine h g' cap' w' ⟨by rw [List.length_append, hbuf.1]; simp; omega, ?_⟩ ?_
  · rw [show ints (zs ++ [u, v]) = ints zs ++ [.int .i64 u, .int .i64 v] by simp]
    exact ho'
  · exact F0.below_grown ((Below.refl _ _).alloc hb _) hg' (fun g hg => (hbuf.2.lt g hg).1) (by simp; omega)

/-- A row of numbers marked from any number on. -/
theorem markAny (g c : Nat) (vs : List Value) (k0 : Nat) (w : World) (hn : vs.length ≤ 1048576) (h0 : k0 ≤ 1099511627776) (hb : K0.Blk g vs w) :
    Calls Tryz.prog 36 #[.slice (some ⟨g, 0, none⟩) vs.length c, .int .i64 (k0 : Int)] w fun e w' => e = .returned (.int .i64 ((k0 + vs.length : Nat) : Int)) ∧ w.grownBy w' (some g) := by
  go_enter Tryz.func36, Tryz.ntmps36
  go_wp2
  go_loopw [1, 5] (fun q i w' => ∃ (k : Nat) (us : List Value), k ≤ vs.length ∧ i = .int .i64 k ∧ q = .int .i64 ((k0 + k : Nat) : Int) ∧ us.length = vs.length ∧ K0.Blk g us w' ∧ w.grownBy w' (some g)) (fun _ i _ => vs.length - (intOf i).toNat)
  case atStart => exact ⟨0, vs, Nat.zero_le _, rfl, rfl, rfl, hb, grown_refl _ _⟩
  case round =>
    obtain ⟨k, us, hk, rfl, rfl, hul, hblk, hgr⟩ := hrel
    by_cases hlt : k < vs.length
    · have e1 : (0 : Int) ≤ (k : Int) := by omega
      have e2 : (k : Int) < (vs.length : Int) := by omega
      have x2 := hblk.cell k (by omega)
      have x3 := hblk.free k (by omega)
      obtain ⟨u, x4⟩ : ∃ u, wr.cell? ⟨g, k, none⟩ = some u := ⟨_, x2⟩
      have HB : Hid (K0.Blk g (us.set k (.int .i64 ((k0 + k : Nat) : Int))) (wr.setCell ⟨g, k, none⟩ (.int .i64 ((k0 + k : Nat) : Int)))) := hblk.set k _
      have HUL : Hid ((us.set k (.int .i64 ((k0 + k : Nat) : Int))).length = vs.length) := by show (us.set k _).length = _; rw [List.length_set]; exact hul
      clear x2 hblk hb hul
      go_wp2
      go_roundw
      case rel => exact ⟨k + 1, _, by omega, by go_num, by go_num, HUL.out, HB.out, grown_set hgr _⟩
      case measure => simp [intOf]; omega
    · obtain rfl : k = vs.length := by omega
      clear hb hblk hul
      go_wp2
      go_ret
      exact ⟨rfl, hgr⟩
end Go.Proofs.YtddlpejklpljoaaGreat.R5

/- What the exact laws over loans keep: the law's own loan, boxed, and a copy of it. -/
namespace Go.Proofs.YtddlpejklpljoaaGreat.N12
open Go.ChangeShapes Go.WideShapes Go.ChangeAt Go.RowKit
set_option linter.unusedVariables false
set_option linter.unusedSimpArgs false
set_option maxRecDepth 10000

open N0 (Ln)
open N1 (Sl Lists Fit FitM LB lb_new)
open N4 (at3 Cp)

/-- The law's loan in its box. -/
structure A (w : World) (d : Ln) (s : Sl) (W : World) : Prop where
  b : LB w.heap.size d s W
  l : Lists W d s
  bel : Below w.heap.size w W

variable {w W W' : World} {d : Ln} {s : Sl} {g1 g2 g3 B : Nat}

theorem A.below (h : A w d s W) (hb : Below W.heap.size W W') : A w d s W' := ⟨h.b.below hb, h.l.below hb, h.bel.trans (hb.mono h.bel.size)⟩
theorem A.drew (h : A w d s W) : A w d s W.drew := h.below ((Below.refl _ _).drew)

theorem a_new (w : World) (d : Ln) (s : Sl) (h : Lists w d s) : A w d s (w.alloc (.cells #[.int .i64 d.ino, .int .i64 d.cl, .int .i64 d.un, .string d.rc, .slice s.a1 d.pg.length s.c1, .string d.sav, .slice s.a2 d.po.length s.c2, .slice s.a3 d.fr.length s.c3] 51)) :=
  ⟨lb_new d s w 51, h.alloc _, K0.below_new _ _⟩

/-- Beside it a copy of it, boxed. -/
structure U (w : World) (d : Ln) (s : Sl) (g1 g2 g3 B : Nat) (W : World) : Prop where
  t : A w d s W
  n : LB B d (at3 d g1 g2 g3) W
  cp : Cp w.heap.size d g1 g2 g3 W

theorem U.below (h : U w d s g1 g2 g3 B W) (hb : Below W.heap.size W W') : U w d s g1 g2 g3 B W' := ⟨h.t.below hb, h.n.below hb, h.cp.below hb⟩
theorem U.drew (h : U w d s g1 g2 g3 B W) : U w d s g1 g2 g3 B W.drew := h.below ((Below.refl _ _).drew)

theorem cp_mono {b b' : Nat} (h : Cp b d g1 g2 g3 W) (hb : b' ≤ b) : Cp b' d g1 g2 g3 W := ⟨Nat.le_trans hb h.h1, Nat.le_trans hb h.h2, Nat.le_trans hb h.h3, h.k1, h.k2, h.k3⟩

theorem u_new {b : Nat} (h : A w d s W) (hc : Cp b d g1 g2 g3 W) (hb : w.heap.size ≤ b) :
    U w d s g1 g2 g3 W.heap.size (W.alloc (.cells #[.int .i64 d.ino, .int .i64 d.cl, .int .i64 d.un, .string d.rc, .slice (at3 d g1 g2 g3).a1 d.pg.length (at3 d g1 g2 g3).c1, .string d.sav, .slice (at3 d g1 g2 g3).a2 d.po.length (at3 d g1 g2 g3).c2, .slice (at3 d g1 g2 g3).a3 d.fr.length (at3 d g1 g2 g3).c3] 26)) :=
  ⟨h.below (K0.below_new _ _), lb_new d (at3 d g1 g2 g3) W 26, (cp_mono hc hb).below (K0.below_new _ _)⟩

theorem sizes (h : N3.total d ≤ 1048576) : d.pg.length ≤ 1048576 ∧ d.po.length ≤ 1048576 ∧ d.fr.length ≤ 1048576 ∧ d.rc.size ≤ 1048576 ∧ d.sav.size ≤ 1048576 := by
  unfold N3.total at h
  omega

theorem fitc (h : N3.total d ≤ 1048576) : Fit d (at3 d g1 g2 g3) := by
  have := sizes h
  exact ⟨Nat.le_refl _, by show d.pg.length ≤ _; omega, Nat.le_refl _, by show d.po.length ≤ _; omega, Nat.le_refl _, by show d.fr.length ≤ _; omega, by omega, by omega⟩
end Go.Proofs.YtddlpejklpljoaaGreat.N12

/- What Undo makes of a memory; contracts of spec.Undo and impl.Undo, as the given laws call them. -/
namespace Go.Proofs.YtddlpejklpljoaaGreat.N13
open Go.ChangeShapes Go.WideShapes Go.ChangeAt Go.RowKit
set_option linter.unusedVariables false
set_option linter.unusedSimpArgs false
set_option maxRecDepth 10000

open N0 (Ln)
open N1 (Sl Lists Fit LB lb_new)

/-- The lent pages as they were, one behind the other. -/
def uPg (d : Ln) (m : ByteArray) : Nat → ByteArray
  | 0 => m
  | k + 1 => B5.laid (uPg d m k) (d.pg.getD k 0 * 32) (B2.part d.sav ((k : Int) * 32) 32)

/-- The fresh records as zeros. -/
def uFr (d : Ln) (m : ByteArray) : Nat → ByteArray
  | 0 => m
  | k + 1 => B5.laid (uFr d m k) (L1.recAt (d.fr.getD k 0)) (B4.zeros 16)

def undone (mem : ByteArray) (d : Ln) : ByteArray := uFr d (uPg d (B5.laid mem (L1.recAt d.ino) d.rc) d.pg.length) d.fr.length

/-- What Undo answers. -/
def undo (mem : ByteArray) (d : Ln) : ByteArray := if N0.loanOk d = true ∧ mem.size = 768 then undone mem d else mem

theorem laid_size (s : ByteArray) (i : Int) (t : ByteArray) : (B5.laid s i t).size = s.size := by
  unfold B5.laid
  split
  · rename_i h
    obtain ⟨h1, h2, h3⟩ := B2.lies_true h
    simp only [ByteArray.size_append, ByteArray.size_extract]
    omega
  · rfl

theorem uPg_size (d : Ln) (m : ByteArray) : ∀ k, (uPg d m k).size = m.size
  | 0 => rfl
  | k + 1 => by rw [uPg, laid_size, uPg_size d m k]
theorem uFr_size (d : Ln) (m : ByteArray) : ∀ k, (uFr d m k).size = m.size
  | 0 => rfl
  | k + 1 => by rw [uFr, laid_size, uFr_size d m k]

theorem zeros_le : (B4.zeros 16).size ≤ 281474976710656 := by
  unfold B4.zeros
  split
  · rw [B4.nulls_size]; decide
  · exact Nat.zero_le _

/-- The boxed loan. -/
structure Bx (w : World) (d : Ln) (s : Sl) (W : World) : Prop where
  arg : LB w.heap.size d s W
  bel : Below w.heap.size w W

variable {w W W' : World} {d : Ln} {s : Sl}
theorem Bx.below (h : Bx w d s W) (hb : Below W.heap.size W W') : Bx w d s W' := ⟨h.arg.below hb, h.bel.trans (hb.mono h.bel.size)⟩
theorem Bx.drewN (h : Bx w d s W) (m : Nat) : Bx w d s (W.drewN m) := ⟨⟨h.arg.b.drewN m⟩, K0.below_drewN h.bel m⟩
theorem bx_new (w : World) (d : Ln) (s : Sl) : Bx w d s (N10.w0 w d s) := ⟨lb_new d s w 26, K0.below_new _ _⟩

theorem l03Page0 (mem : ByteArray) (k : Nat) (w : World) (hs : mem.size ≤ 281474976710656) (hk : k ≤ 100) :
    Calls Tryz.prog 46 #[.string mem, .int .i64 (k : Int)] w fun e w' => e = .returned (.string (B2.part mem ((k : Int) * 32) 32)) ∧ w' = w := by
  have hm : mem.size ≤ maxLen := by unfold maxLen; omega
  have hw : IntKind.i64.wrap ((k : Int) * 32) = (k : Int) * 32 := by rw [IntKind.wrap_i64]; omega
  have hpt := B2.spec_Part mem ((k : Int) * 32) 32 w hm (N11.wf_of _ (by omega) (by omega)) (by decide)
  go_enter Tryz.func46, Tryz.ntmps46
  go_wp2_with (go_at_call 57; refine hpt.mono ?_; rintro e w' ⟨rfl, rfl⟩)
  go_ret
  exact ⟨rfl, rfl⟩

set_option maxHeartbeats 4000000 in
theorem impl_Undo (mem : ByteArray) (d : Ln) (s : Sl) (w : World) (hms : mem.size ≤ 281474976710656) (hF : Fit d s) (hpo : d.po.length ≤ 1048576) (hfr : d.fr.length ≤ 1048576) (hR : Lists w d s) :
    Calls Tryz.prog 8 #[.string mem, N1.val d s] w fun e w' => e = .returned (.string (undo mem d)) ∧ Below w.heap.size w w' := by
  have x0 := bx_new w d s
  have HL : Hid (∀ W, Below w.heap.size w W → Lists W d s) := fun W hb => hR.below hb
  have HO : Hid (∀ W, Below w.heap.size w W → Calls Tryz.prog 16 #[N1.val d s] W fun e w' => e = .returned (.bool (N0.loanOk d)) ∧ Below W.heap.size W w') := fun W hb => N10.impl_LoanOk d s W hF hpo hfr (hR.below hb)
  have hrs := hF.m4
  have hss := hF.m5
  clear hR hF
  cases hok : N0.loanOk d with
  | false =>
    rw [hok] at HO
    have HU : Hid (undo mem d = mem) := by
      show undo mem d = mem
      rw [undo, if_neg]
      rintro ⟨h, _⟩
      rw [hok] at h
      cases h
    rw [HU.out]
    clear HU hok
    go_enter Tryz.func8, Tryz.ntmps8
    go_wp2_with (first
      | (go_at_call 16; refine (HO.out _ x0.bel).mono ?_; rintro e w1 ⟨rfl, b1⟩; have x1 := x0.below b1)
      | (go_at_call 39; refine (B2.clone_any _ _ hms).mono ?_; rintro e w2 ⟨rfl, b2⟩; have x2 := x1.below b2))
    go_ret
    exact ⟨rfl, x2.bel⟩
  | true =>
    rw [hok] at HO
    by_cases hm : mem.size = 768
    · have g8 : ((mem.size : Int) != 768) = false := by simp; omega
      have HU : Hid (undo mem d = undone mem d) := by
        show undo mem d = _
        rw [undo, if_pos ⟨hok, hm⟩]
      obtain ⟨-, -, -, -, -, -, hp6, -, hf2, hpp, -, -, -⟩ := N0.loanOk_is hok
      have hpg : ∀ j, j < d.pg.length → 5 ≤ d.pg.getD j 0 ∧ d.pg.getD j 0 ≤ 23 := fun j hj => (N0.pagesOk_iff.1 hpp).1 _ (List.mem_append.2 (Or.inl (N0.getD_mem hj)))
      rw [HU.out]
      have h1s : (B5.laid mem (L1.recAt d.ino) d.rc).size = 768 := by rw [laid_size]; exact hm
      have HE : Hid (undone mem d = uFr d (uPg d (B5.laid mem (L1.recAt d.ino) d.rc) d.pg.length) d.fr.length) := rfl
      have hW : Hid (∀ W, Calls Tryz.prog 40 #[.string mem, .int .i64 (L1.recAt d.ino), .string d.rc] W fun e w' => e = .returned (.string (B5.laid mem (L1.recAt d.ino) d.rc)) ∧ Below W.heap.size W w') := fun W => B5.impl_With _ _ _ _ hms hrs
      obtain ⟨m1, hm1⟩ : ∃ m1, B5.laid mem (L1.recAt d.ino) d.rc = m1 := ⟨_, rfl⟩
      rw [hm1] at h1s HE hW
      rw [HE.out]
      clear HU HE hok hm1 hpp
      go_enter Tryz.func8, Tryz.ntmps8
      go_wp2_with (go_at_call 16; refine (HO.out _ x0.bel).mono ?_; rintro e w1 ⟨rfl, b1⟩; have x1 := x0.below b1)
      have x2 := x1.below (W' := w1.drew) ((Below.refl _ _).drew)
      have c0 := x2.arg.c0
      have c3 := x2.arg.c3
      have s2 : w1.drew.cell? ⟨w.heap.size, 0, none⟩ = some (.int .i64 d.ino) ∧ w1.drew.cell? ⟨w.heap.size, 3, none⟩ = some (.string d.rc) := ⟨c0, c3⟩
      go_region_held3 (fun W => W.cell? ⟨w.heap.size, 0, none⟩ = some (.int .i64 d.ino) ∧ W.cell? ⟨w.heap.size, 3, none⟩ = some (.string d.rc)) (assumption) ((first
        | (go_at_call 19; refine (L1.impl_RecAt _ _).mono ?_; rintro e w' ⟨rfl, rfl⟩)
        | (go_at_call 40; refine (hW.out _).mono ?_; rintro e w3 ⟨rfl, b3⟩; have x3 := x2.below b3; have s3 : w3.cell? ⟨w.heap.size, 0, none⟩ = some (.int .i64 d.ino) ∧ w3.cell? ⟨w.heap.size, 3, none⟩ = some (.string d.rc) := ⟨x3.arg.c0, x3.arg.c3⟩)))
      have c4 := x3.arg.c4
      clear s3 s2 c0 c3 x2 x1 b1 b3 x0
      go_wp2
      go_loopw [0, 29] (fun v i w' => ∃ k : Nat, k ≤ d.pg.length ∧ i = .int .i64 k ∧ v = .string (uPg d m1 k) ∧ Bx w d s w') (fun _ i _ => d.pg.length - (intOf i).toNat)
      case atStart => exact ⟨0, Nat.zero_le _, rfl, rfl, x3⟩
      case round =>
        obtain ⟨k, hk, rfl, rfl, xr⟩ := hrel
        have hus := uPg_size d m1 k
        by_cases hlt : k < d.pg.length
        · obtain ⟨b, off, hab, _, hcell⟩ := (HL.out _ xr.bel).r1.get hlt
          have y1 := hcell k hlt
          have hz := hpg k hlt
          have HS : Hid (B5.laid (uPg d m1 k) (d.pg.getD k 0 * 32) (B2.part d.sav ((k : Int) * 32) 32) = uPg d m1 (k + 1)) := rfl
          obtain ⟨z, ez⟩ : ∃ z, d.pg.getD k 0 = z := ⟨_, rfl⟩
          rw [ez] at y1 hz HS
          rw [hab]
          have c5 := xr.arg.c5
          have e1 : (0 : Int) ≤ (k : Int) := by omega
          have e2 : (k : Int) < (d.pg.length : Int) := by omega
          have hpt : Hid (∀ W, Calls Tryz.prog 18 #[.string d.sav, .int .i64 ((k : Int) * 32), .int .i64 32] W fun e w' => e = .returned (.string (B2.part d.sav ((k : Int) * 32) 32)) ∧ Below W.heap.size W w') := fun W => B2.impl_Part _ _ _ _ hss
          have hwt : Hid (∀ W, Calls Tryz.prog 40 #[.string (uPg d m1 k), .int .i64 (z * 32), .string (B2.part d.sav ((k : Int) * 32) 32)] W fun e w' => e = .returned (.string (B5.laid (uPg d m1 k) (z * 32) (B2.part d.sav ((k : Int) * 32) 32))) ∧ Below W.heap.size W w') := fun W => B5.impl_With _ _ _ _ (by rw [hus]; omega) (Nat.le_trans (B2.part_size _ _ _) hss)
          clear ez hcell hus
          go_wp2_with (first
            | (go_at_call 18; refine (hpt.out _).mono ?_; rintro e w4 ⟨rfl, b4⟩; have x4 := xr.below b4)
            | (go_at_call 40; refine (hwt.out _).mono ?_; rintro e w5 ⟨rfl, b5⟩; have x5 := x4.below b5))
          go_roundw
          case rel => exact ⟨k + 1, by omega, by go_num, by rw [HS.out], x5⟩
          case measure => simp [intOf]; omega
        · obtain rfl : k = d.pg.length := by omega
          have c7 := xr.arg.c7
          obtain ⟨m2, hm2⟩ : ∃ m2, uPg d m1 d.pg.length = m2 := ⟨_, rfl⟩
          have HM2 : Hid (uPg d m1 d.pg.length = m2) := hm2
          rw [hm2] at hus ⊢
          clear hm2 x3
          go_wp2
          go_loopw [0, 47] (fun v i w' => ∃ k : Nat, k ≤ d.fr.length ∧ i = .int .i64 k ∧ v = .string (uFr d m2 k) ∧ Bx w d s w') (fun _ i _ => d.fr.length - (intOf i).toNat)
          case atStart => exact ⟨0, Nat.zero_le _, rfl, rfl, xr⟩
          case round =>
            rename_i wr2
            obtain ⟨j, hj, rfl, rfl, xq⟩ := hrel
            have hvs := uFr_size d m2 j
            by_cases hlt2 : j < d.fr.length
            · obtain ⟨b, off, hab, _, hcell⟩ := (HL.out _ xq.bel).r3.get hlt2
              have y1 := hcell j hlt2
              have HS : Hid (B5.laid (uFr d m2 j) (L1.recAt (d.fr.getD j 0)) (B4.zeros 16) = uFr d m2 (j + 1)) := rfl
              obtain ⟨z, ez⟩ : ∃ z, d.fr.getD j 0 = z := ⟨_, rfl⟩
              rw [ez] at y1 HS
              rw [hab]
              have e1 : (0 : Int) ≤ (j : Int) := by omega
              have e2 : (j : Int) < (d.fr.length : Int) := by omega
              have hwt : Hid (∀ W, Calls Tryz.prog 40 #[.string (uFr d m2 j), .int .i64 (L1.recAt z), .string (B4.zeros 16)] W fun e w' => e = .returned (.string (B5.laid (uFr d m2 j) (L1.recAt z) (B4.zeros 16))) ∧ Below W.heap.size W w') := fun W => B5.impl_With _ _ _ _ (by rw [hvs]; omega) zeros_le
              clear ez hcell hvs
              go_wp2_with (first
                | (go_at_call 19; refine (L1.impl_RecAt _ _).mono ?_; rintro e w' ⟨rfl, rfl⟩)
                | (go_at_call 41; refine (B4.impl_Zeros _ _).mono ?_; rintro e w6 ⟨rfl, b6⟩; have x6 := xq.below b6)
                | (go_at_call 40; refine (hwt.out _).mono ?_; rintro e w7 ⟨rfl, b7⟩; have x7 := x6.below b7))
              go_roundw
              case rel => exact ⟨j + 1, by omega, by go_num, by rw [HS.out], x7⟩
              case measure => simp [intOf]; omega
            · obtain rfl : j = d.fr.length := by omega
              go_wp2
              go_ret
              exact ⟨by rw [HM2.out]; rfl, xq.bel⟩
    · have g8 : ((mem.size : Int) != 768) = true := by simp; omega
      have HU : Hid (undo mem d = mem) := by
        show undo mem d = mem
        rw [undo, if_neg]
        rintro ⟨_, h⟩
        exact hm h
      rw [HU.out]
      clear HU hok hm
      go_enter Tryz.func8, Tryz.ntmps8
      go_wp2_with (first
        | (go_at_call 16; refine (HO.out _ x0.bel).mono ?_; rintro e w1 ⟨rfl, b1⟩; have x1 := x0.below b1)
        | (go_at_call 39; refine (B2.clone_any _ _ hms).mono ?_; rintro e w2 ⟨rfl, b2⟩; have x2 := x1.below b2))
      go_ret
      exact ⟨rfl, x2.bel⟩
end Go.Proofs.YtddlpejklpljoaaGreat.N13
