/- The contract of the program's Dirty, as the given laws call it. -/
import Derived.Test.YtkpcpffpiilcpaaDrt1
namespace Go.Proofs.Ytkpcpffpiilcpaa.Y2
open Go.ChangeShapes Go.WideShapes Go.ChangeAt Go.RowKit Go.Shelf
open X0 (row mix)
open F0 (Has)
open I2 (ints)
attribute [local go_sem] Oper.semAt_some
set_option linter.unusedVariables false
set_option linter.unusedSimpArgs false
set_option maxRecDepth 10000

theorem dr_start {a b : ByteArray} {w W : World} {G : Nat} (hD : A3.Dl G a.data.toList b.data.toList W)
    (hG : (((w.alloc (.cells #[.string a, .string b] 25)).alloc (.cells #[] 3)).alloc (.cells #[.slice (some ⟨w.heap.size + 1, 0, none⟩) 0 0] 32)).heap.size ≤ G)
    (hb : Below (((w.alloc (.cells #[.string a, .string b] 25)).alloc (.cells #[] 3)).alloc (.cells #[.slice (some ⟨w.heap.size + 1, 0, none⟩) 0 0] 32)).heap.size (((w.alloc (.cells #[.string a, .string b] 25)).alloc (.cells #[] 3)).alloc (.cells #[.slice (some ⟨w.heap.size + 1, 0, none⟩) 0 0] 32)) W) :
    Y1.Dr w G (w.heap.size + 2) a.data.toList b.data.toList [] W := by
  have h1 := F0.has_new ((w.alloc (.cells #[.string a, .string b] 25)).alloc (.cells #[] 3)) (.slice (some ⟨w.heap.size + 1, 0, none⟩) 0 0) 32 #[.slice (some ⟨w.heap.size + 1, 0, none⟩) 0 0] 0 rfl
  have h2 := (J0.ibuf_made (base := w.heap.size) (w.alloc (.cells #[.string a, .string b] 25)) (by simp)).alloc (.cells #[.slice (some ⟨w.heap.size + 1, 0, none⟩) 0 0] 32)
  have h3 := ((K0.below_new w (.cells #[.string a, .string b] 25)).alloc (by simp) (.cells #[] 3)).alloc (by simp; omega) (.cells #[.slice (some ⟨w.heap.size + 1, 0, none⟩) 0 0] 32)
  simp only [World.size_alloc] at h1 h2 hG
  refine ⟨hD, ⟨_, _, _, h1.below hb, h2.below hb, fun g e => ?_⟩, ⟨by omega, by omega⟩, h3.trans (hb.mono (by simp; omega))⟩
  cases e
  show w.heap.size + 1 ≠ G ∧ w.heap.size + 1 ≠ w.heap.size + 2
  omega

theorem hs_keep {w W V : World} {G f : Nat} {la lb : List UInt8} {zs : List Int} {p : Option Addr} {n c : Nat} {o : Obj} (hf : Has f 0 (.slice p n c) W) (h : Y1.Dr w G f la lb zs W) (hne : ∀ g, (Value.slice p n c).ownBlock = some g → g ≠ G ∧ g ≠ f)
    (hg : (W.alloc o).grownBy V (Value.slice p n c).ownBlock) : Has f 0 (.slice p n c) V := by
  have hfl := hf.2.2
  have hsz : W.heap.size + 1 ≤ V.heap.size := by have := hg.size; simpa using this
  have hF : V.heap[f]? = W.heap[f]? := by
    rw [hg.block f (by simp; omega) (fun e => (hne f e.symm).2 rfl)]
    exact Below.heap_alloc _ _ _ hfl
  exact ⟨(World.cell?_of_block (a := ⟨f, 0, none⟩) hF).trans hf.1, (World.frozen?_of_block (a := ⟨f, 0, none⟩) hF).trans hf.2.1, by omega⟩

set_option maxRecDepth 100000 in
set_option maxHeartbeats 4000000 in
theorem impl_Dirty_main (a b : ByteArray) (w : World) (ha : a.size = 768) (hb : b.size = 768) : Calls Try.prog 12 #[.agg #[.string a, .string b]] w (Y0.Ans a b w) := by
  have hla : a.data.toList.length = 768 := by rw [← Lib.size_eq]; exact ha
  have hlb : b.data.toList.length = 768 := by rw [← Lib.size_eq]; exact hb
  have hok : D1.ok a b = true := D1.ok_mk ha hb
  have hma : a.size ≤ maxLen := by unfold maxLen; omega
  have hmb : b.size ≤ maxLen := by unfold maxLen; omega
  have k0 := ((K0.blk_new [.string a, .string b] w 25).alloc (.cells #[] 3)).alloc (.cells #[.slice (some ⟨w.heap.size + 1, 0, none⟩) 0 0] 32)
  have x0 := k0.c0
  have x1 := k0.c1
  have k1 := k0.alloc (.cells #[.string a, .string b] 25)
  have y0 := k1.c0
  have y1 := k1.c1
  have HA : Hid (∀ p n c W, n = (Y0.drt a b 96).length → J0.Own w.heap.size W p (Y0.drt a b 96) → n ≤ c → Below w.heap.size w W → Y0.Ans a b w (.returned (.slice p n c)) W) := fun p n c W hn ho hc hb => Y0.ans_yes hok hn ho hc hb
  obtain ⟨R, hR⟩ : ∃ R, Y0.Ans a b w = R := ⟨_, rfl⟩
  rw [hR] at HA ⊢
  clear hR
  refine (callsIn_wide (n := 5)).1 ?_
  refine callsIn_of_wp_marks Try.func12 rfl trivial ?_ rfl
  simp only [Try.ntmps12, List.size_toArray, List.length_cons, List.length_nil, Nat.reduceAdd, Nat.reduceSub, Array.replicate_succ, Array.replicate_zero, List.push_toArray, List.append_toArray, List.nil_append, List.cons_append]
  refine wpIn_wide.2 ?_
  go_wp2_with (first
    | (go_at_call 20; refine (D1.impl_DevOk _ _ _ hma hmb).mono ?_; rintro e w1 ⟨rfl, rfl⟩; rw [hok])
    | (go_at_call 43; refine (A3.cutDev a b _ ha hb).mono ?_; rintro e w3 ⟨G, rfl, hG, hD, b3⟩))
  have hst : Y1.Dr w G (w.heap.size + 2) a.data.toList b.data.toList [] w3 := dr_start hD (Nat.le_trans (by simp) hG) ((K0.below_new _ _).trans (b3.mono (by simp)))
  have hsz : w.heap.size ≤ w3.heap.size := hst.bel.size
  clear k0 k1 x0 x1 y0 y1 hG hD b3
  obtain ⟨f, hf⟩ : ∃ f, w.heap.size + 2 = f := ⟨_, rfl⟩
  rw [hf] at hst
  simp only [hf]
  clear hf
  refine wpIn_wide.1 (R0.range_bound (n := 5) (gf := 44) (N := 96) (bd := #[.pointer (some ⟨G, 0, none⟩)]) rfl (enters_of Try.func44 (by kernel_rfl) rfl) rfl
    (fun k W => Y1.Dr w G f a.data.toList b.data.toList (Y0.drt a b k) W) (R1.Differ G a.data.toList)
    (fun c W => False)
    (fun k W V row h hg hr => h.own hsz hg hr) (fun k W V row ⟨lb', h1, h2, h3⟩ hg hr => ⟨lb', h1, F0.dl_own h2 hg (fun r e => (hr r e).2), h3⟩) (fun c W V row h hg hr => h)
    hst
    (fun l J Jx W a1 a2 a3 a4 a5 a6 => R1.dirty_in 5 G a.data.toList hla _ (fun k W h => ⟨_, hlb, h.dl⟩) (fun k W lb' hk h hl' hd' he => by
      have e := F0.dl_unique hd' h.dl (by rw [hl', hlb])
      subst e
      rw [Y0.drt_yes (by rw [Y1.same_row ha hb hk]; exact decide_eq_true he)]
      exact h) l J Jx W a1 a2 a3 a4 a5 a6) ?round ?done ?stop)
  case round =>
    rintro l k W V hk hI ⟨lb', hl', hd', hne⟩
    have e := F0.dl_unique hd' hI.dl (by rw [hl', hlb])
    subst e
    have HS : Hid (Y0.drt a b k ++ [(k : Int)] = Y0.drt a b (k + 1)) := Y0.drt_no (by rw [Y1.same_row ha hb hk]; exact decide_eq_false hne)
    obtain ⟨p, n, c, hfc, hib, hnb⟩ := hI.lst
    have c3 := hfc.1
    have hn : n ≤ 96 := by rw [hib.1]; have := Y0.drt_len a b k; omega
    clear hst hne hd' hl'
    have hz0 : w.heap.size ≤ V.heap.size := hI.bel.size
    gi_wp2
    refine ⟨trivial, ?_⟩
    gi_wp2_with (refine Y1.append_in rfl (.tmp 16) (.tmp 18) rfl hib (k : Int) rfl rfl (by omega) hz0 ?_; intro g1 cap1 w4 hb4 hg4 hw4; obtain ⟨hs4, hk4⟩ := hI.step hfc hib hnb hb4 hg4 hw4; have q4 : Has f 0 (.slice p n c) w4 := hs_keep hfc hI hnb hg4; have q5 := q4.1; have q6 := q4.2.1)
    refine ⟨hk4 _, ?_⟩
    show Y1.Dr w G f a.data.toList b.data.toList (Y0.drt a b (k + 1)) _
    rw [← HS.out]
    exact hs4
  case done =>
    rintro D W hD hI hK
    obtain ⟨p, n, c, hfc, hib, hnb⟩ := hI.lst
    have c3 := hfc.1
    go_wp2
    have hib' : J0.IBuf w.heap.size (W.putObj D (.deferred none)) p n c (Y0.drt a b 96) := Y1.ibuf_own hib (grownBy_putObj' _ D _) (fun r e => by cases e; exact ⟨_, hK, rfl⟩)
    have hbb := hI.bel.trans (belowK_b (w := w) (Nat.le_refl _) W D _ (.deferred none) (by omega) hK rfl rfl)
    refine R2.leave rfl hK ⟨.slice p n c, ?_, ?_⟩
    · simp [results, Try.results12, go_sem]
    · exact HA.out _ _ _ _ hib'.1 hib'.own hib'.fits hbb
  case stop =>
    rintro D c W hD h hK
    exact h.elim

set_option maxHeartbeats 2000000 in
theorem impl_Dirty (a b : ByteArray) (w : World) (ha : a.size ≤ 281474976710656) (hb : b.size ≤ 281474976710656) : Calls Try.prog 12 #[.agg #[.string a, .string b]] w (Y0.Ans a b w) := by
  by_cases hok : D1.ok a b = true
  · exact impl_Dirty_main a b w (D1.ok_true hok).1 (D1.ok_true hok).2
  · have hok' : D1.ok a b = false := by simpa using hok
    have hma : a.size ≤ maxLen := by unfold maxLen; omega
    have hmb : b.size ≤ maxLen := by unfold maxLen; omega
    have HN : Hid (∀ p c W, Below w.heap.size w W → Y0.Ans a b w (.returned (.slice p 0 c)) W) := fun p c W hb => Y0.ans_no hok' hb
    obtain ⟨R, hR⟩ : ∃ R, Y0.Ans a b w = R := ⟨_, rfl⟩
    rw [hR] at HN ⊢
    clear hR
    have k0 := ((K0.blk_new [.string a, .string b] w 25).alloc (.cells #[] 3)).alloc (.cells #[.slice (some ⟨w.heap.size + 1, 0, none⟩) 0 0] 32)
    have x0 := k0.c0
    have x1 := k0.c1
    have h1 := (F0.has_new ((w.alloc (.cells #[.string a, .string b] 25)).alloc (.cells #[] 3)) (.slice (some ⟨w.heap.size + 1, 0, none⟩) 0 0) 32 #[.slice (some ⟨w.heap.size + 1, 0, none⟩) 0 0] 0 rfl).alloc (.cells #[.string a, .string b] 25)
    have l0 := (((K0.below_new w (.cells #[.string a, .string b] 25)).alloc (by simp) (.cells #[] 3)).alloc (by simp; omega) (.cells #[.slice (some ⟨w.heap.size + 1, 0, none⟩) 0 0] 32)).alloc (by simp; omega) (.cells #[.string a, .string b] 25)
    simp only [World.size_alloc] at h1
    have h2 := h1.1
    go_enter Try.func12, Try.ntmps12
    go_wp2_with (go_at_call 20; refine (D1.impl_DevOk _ _ _ hma hmb).mono ?_; rintro e w1 ⟨rfl, rfl⟩; rw [hok'])
    exact HN.out _ _ _ l0
end Go.Proofs.Ytkpcpffpiilcpaa.Y2
