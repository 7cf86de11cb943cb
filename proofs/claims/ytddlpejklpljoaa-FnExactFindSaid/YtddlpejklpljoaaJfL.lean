/- Joined texts: plain facts and contracts, as each part says. -/
import Derived.Test.YtddlpejklpljoaaJfF
import Derived.Test.YtddlpejklpljoaaJfK
import Derived.Deep.WholeRow
import Derived.Test.YtddlpejklpljoaaJfB
import Derived.Deep.RegionHeld3
import Derived.RegionTactic

/- The contracts of the tree's pagesApart and of readTree. -/
namespace Go.Proofs.Ytddlpejklpljoaa.TW
open Go.ChangeShapes Go.WideShapes Go.ChangeAt Go.RowKit
open Go.Sort (Holds putRow grow)
set_option linter.unusedVariables false
set_option linter.unusedSimpArgs false
set_option maxRecDepth 10000
variable {B : Nat} {N : Nat → Nd} {F : Nat → Nat} {P : Nat → ByteArray} {w W W' : World} {Z : Nat → List Int}
open J0 (IBuf Own)
open I2 (ints)

/-- slices.Clone of a row in a block of its own, its length alone. -/
theorem cloneBlk (g c : Nat) (zs : List Int) (w : World) (hl : zs.length ≤ 1048576) (h : K0.Blk g (ints zs) w) :
    Calls Try.prog 80 #[.slice (some ⟨g, 0, none⟩) zs.length c] w fun e w' => ∃ g' c', e = .returned (.slice (some ⟨g', 0, none⟩) zs.length c') ∧ zs.length ≤ c' ∧ w.heap.size ≤ g' ∧ K0.Blk g' (ints zs) w' ∧ Below w.heap.size w w' := by
  have key : ∀ v' w', w'.ownsRow w.heap.size 3 1 v' zs.length (ints zs) → v' ≠ .slice none 0 0 → ∃ g' c', v' = .slice (some ⟨g', 0, none⟩) zs.length c' ∧ zs.length ≤ c' ∧ w.heap.size ≤ g' ∧ K0.Blk g' (ints zs) w' := by
    intro v' w' ho hne
    rcases ho.2 with ⟨h1, _⟩ | ⟨g', cap', cur, rfl, hb, hg, hnc, hcm, hcs, ht⟩
    · exact absurd h1 hne
    · refine ⟨g', cap', rfl, hnc, hb, ?_⟩
      have hi : IBuf w.heap.size w' (some ⟨g', 0, none⟩) zs.length cap' zs := ⟨rfl, ho⟩
      rcases hi.own with h0 | ⟨g2, e, _, hk⟩
      · rw [h0]
        exact ⟨fun j hj => by simp at hj, fun j hj => by simp at hj, (Array.getElem?_eq_some_iff.1 hg).1⟩
      · cases e
        exact hk
  refine (Try.slices_Clone_int g 0 zs.length c zs w (Nat.le_refl _) (by omega) (fun j hj => ?_)).mono fun e w' ⟨v', he, ho, hne, hb⟩ => ?_
  · have := h.cell j (by simpa using hj)
    rw [Nat.zero_add, this]
    simp [hj]
  · rw [List.take_length] at ho
    obtain ⟨g', c', rfl, h1, h2, h3⟩ := key v' w' (by simpa using ho) hne
    exact ⟨g', c', he, h1, h2, h3, hb⟩

set_option maxHeartbeats 1000000 in
theorem pagesApart (w : World) (hT : Tb B N F P w) (hZ : Ps N Z w) :
    Calls Try.prog 58 #[.pointer (some ⟨B, 0, none⟩)] w fun e w' => e = .returned (.bool (decide (cat Z 8).Nodup)) ∧ Below w.heap.size w w' := by
  have hlen := cat_len hZ.few 8
  have hp := pages w hT hZ
  obtain ⟨zs, hzs⟩ : ∃ zs, cat Z 8 = zs := ⟨_, rfl⟩
  rw [hzs] at hp hlen ⊢
  have hsl := srt_length zs
  have hcl : Hid (∀ g c W, K0.Blk g (ints (srt zs)) W → Calls Try.prog 80 #[.slice (some ⟨g, 0, none⟩) zs.length c] W fun e w' => ∃ g' c', e = .returned (.slice (some ⟨g', 0, none⟩) zs.length c') ∧ zs.length ≤ c' ∧ W.heap.size ≤ g' ∧ K0.Blk g' (ints (srt zs)) w' ∧ Below W.heap.size W w') := fun g c W h => by
    have := cloneBlk g c (srt zs) W (by omega) h
    rw [hsl] at this
    exact this
  have hcm : Hid (∀ g c W, zs.length ≤ c → K0.Blk g (ints (srt zs)) W → Calls Try.prog 79 #[.slice (some ⟨g, 0, none⟩) zs.length c] W fun e w' => e = .returned (.slice (some ⟨g, 0, none⟩) (Lib.compact (srt zs)).length c) ∧ ∀ b, b ≤ g → b ≤ W.heap.size → Below b W w') := fun g c W hc h => by
    have := Try.slices_Compact_int g 0 c (srt zs) W (holds_of h) (by omega) (by omega)
    rw [hsl] at this
    refine this.mono fun e w' ⟨he, q, hw⟩ => ⟨he, fun b hb hs => ?_⟩
    subst hw
    refine ⟨rfl, rfl, rfl, ?_, fun k hk => ?_⟩
    · rw [Go.Sort.size_putRow]
      exact Nat.le_refl _
    · show (W.heap.modify g _)[k]? = W.heap[k]?
      rw [Array.getElem?_modify, if_neg (by omega)]
  have hfin : (((Lib.compact (srt zs)).length : Int) == (zs.length : Int)) = decide zs.Nodup := by
    have := apart_iff zs
    by_cases h : zs.Nodup
    · rw [decide_eq_true h]
      have := this.2 h
      simp
      omega
    · rw [decide_eq_false h]
      have : ¬ (Lib.compact (srt zs)).length = zs.length := fun e => h (this.1 e)
      simp
      omega
  obtain ⟨L, hL⟩ : ∃ L, (Lib.compact (srt zs)).length = L := ⟨_, rfl⟩
  rw [hL] at hcm hfin
  obtain ⟨r, hr⟩ : ∃ r, decide zs.Nodup = r := ⟨_, rfl⟩
  rw [hr] at hfin ⊢
  clear hT hZ hL hr hzs
  go_enter Try.func58, Try.ntmps58
  go_wp2_with (first
    | (go_at_call 40; refine hp.mono ?_; rintro e w1 ⟨g1, c1, rfl, hc1, hg1, k1, b1⟩)
    | (go_at_call 80; refine (hcl.out _ _ _ k1).mono ?_; rintro e w2 ⟨g2, c2, rfl, hc2, hg2, k2, b2⟩)
    | (go_at_call 79; refine (hcm.out _ _ _ hc2 k2).mono ?_; rintro e w3 ⟨rfl, b3⟩))
  go_ret
  exact ⟨rfl, (b1.trans (b2.mono b1.size)).trans (b3 _ (Nat.le_trans b1.size hg2) (Nat.le_trans b1.size b2.size))⟩
end Go.Proofs.Ytddlpejklpljoaa.TW

/- The contract of readTree. -/
namespace Go.Proofs.Ytddlpejklpljoaa.TW
open Go.ChangeShapes Go.WideShapes Go.ChangeAt Go.RowKit
set_option linter.unusedVariables false
set_option linter.unusedSimpArgs false
set_option maxRecDepth 10000
variable {B : Nat} {N : Nat → Nd} {F : Nat → Nat} {P : Nat → ByteArray} {w W W' : World} {Z : Nat → List Int} {mem : ByteArray}

def zeroN : Nd := ⟨0, 0, 0, none, 0, 0, ⟨#[]⟩, none, 0, 0⟩
def zcells : List Value := nds (fun _ => zeroN) 8 ++ List.replicate 8 (.int .i64 0) ++ List.replicate 8 (.string ⟨#[]⟩)
theorem rep_get {α : Type} (v : α) (n i : Nat) (h : i < n) : (List.replicate n v)[i]? = some v := by rw [List.getElem?_replicate, if_pos h]
theorem zeroTree : (Try.prog.info? 88).map (fun i => (i.zero, i.size)) = some (some (.agg zcells.toArray), 64) := by kernel_rfl
theorem zlen : zcells.length = 64 := by simp [zcells, nds_length]

theorem tb_new (w : World) : Tb w.heap.size (fun _ => zeroN) (fun _ => 0) (fun _ => ⟨#[]⟩) (w.alloc (.cells zcells.toArray 88)) := by
  have hb := K0.blk_new zcells w 88
  have hl := zlen
  refine ⟨fun i hi j hj => ?_, fun i hi => ?_, fun i hi => ?_, fun j hj => hb.free j (by omega), hb.lt⟩
  · have hj' : j < 6 := hj
    rw [hb.cell (i * 6 + j) (by omega)]
    have h1 : (nds (fun _ => zeroN) 8).length = 48 := nds_length _ 8
    have := nds_at (fun _ => zeroN) i j hi hj'
    have e : zcells[i * 6 + j]? = zeroN.vals[j]? := by
      unfold zcells
      rw [List.append_assoc, List.getElem?_append_left (by omega)]
      exact this
    rw [List.getElem?_eq_getElem (by omega), List.getElem?_eq_getElem hj] at e
    exact e
  · rw [hb.cell (48 + i) (by omega)]
    have h1 : (nds (fun _ => zeroN) 8).length = 48 := nds_length _ 8
    have e : zcells[48 + i]? = some (.int .i64 0) := by
      unfold zcells
      rw [List.append_assoc, List.getElem?_append_right (by omega), h1, List.getElem?_append_left (by rw [List.length_replicate]; omega), show 48 + i - 48 = i by omega]
      exact rep_get _ 8 i hi
    rw [List.getElem?_eq_getElem (by omega)] at e
    exact e
  · rw [hb.cell (56 + i) (by omega)]
    have h1 : (nds (fun _ => zeroN) 8).length = 48 := nds_length _ 8
    have e : zcells[56 + i]? = some (.string ⟨#[]⟩) := by
      unfold zcells
      rw [List.getElem?_append_right (by rw [List.length_append, h1, List.length_replicate]; omega), List.length_append, h1, List.length_replicate, show 56 + i - (48 + 8) = i by omega]
      exact rep_get _ 8 i hi
    rw [List.getElem?_eq_getElem (by omega)] at e
    exact e

abbrev putN (W : World) (B i : Nat) (d : Nd) : World := ((((((W.setCell ⟨B, i * 6, none⟩ (.int .i64 d.k)).setCell ⟨B, i * 6 + 1, none⟩ (.int .i64 d.o)).setCell ⟨B, i * 6 + 2, none⟩ (.int .i64 d.s)).setCell ⟨B, i * 6 + 3, none⟩ (.slice d.a d.n d.c)).setCell ⟨B, i * 6 + 4, none⟩ (.string d.x)).setCell ⟨B, i * 6 + 5, none⟩ (.slice d.ae d.ne d.ce))

def upN (N : Nat → Nd) (i : Nat) (d : Nd) : Nat → Nd := fun y => if y = i then d else N y

theorem putN_cell (h : ∀ j, j < 64 → ∃ v, W.cell? ⟨B, j, none⟩ = some v) {i : Nat} (hi : i < 8) (d : Nd) (j : Nat) (hj : j < 64) :
    (putN W B i d).cell? ⟨B, j, none⟩ = if i * 6 ≤ j ∧ j < i * 6 + 6 then d.vals[j - i * 6]? else W.cell? ⟨B, j, none⟩ := by
  have hs : ∀ (W : World) (k : Nat) (v : Value) (m : Nat), (∃ u, W.cell? ⟨B, m, none⟩ = some u) → (W.setCell ⟨B, k, none⟩ v).cell? ⟨B, m, none⟩ = if k = m then some v else W.cell? ⟨B, m, none⟩ := by
    intro W k v m ⟨u, hu⟩
    by_cases e : k = m
    · subst e
      rw [if_pos rfl, World.cell?_setCell_same _ _ _ hu]
    · rw [if_neg e, cell_far e]
  have hx : ∀ (W : World) (k : Nat) (v : Value) (m : Nat), (∃ u, W.cell? ⟨B, m, none⟩ = some u) → ∃ u, (W.setCell ⟨B, k, none⟩ v).cell? ⟨B, m, none⟩ = some u := by
    intro W k v m hu
    rw [hs W k v m hu]
    split
    · exact ⟨_, rfl⟩
    · exact hu
  have h0 := h j hj
  have h1 := hx W (i * 6) (.int .i64 d.k) j h0
  have h2 := hx _ (i * 6 + 1) (.int .i64 d.o) j h1
  have h3 := hx _ (i * 6 + 2) (.int .i64 d.s) j h2
  have h4 := hx _ (i * 6 + 3) (.slice d.a d.n d.c) j h3
  have h5 := hx _ (i * 6 + 4) (.string d.x) j h4
  unfold putN
  rw [hs _ _ _ _ h5, hs _ _ _ _ h4, hs _ _ _ _ h3, hs _ _ _ _ h2, hs _ _ _ _ h1, hs _ _ _ _ h0]
  by_cases hc : i * 6 ≤ j ∧ j < i * 6 + 6
  · rw [if_pos hc]
    obtain ⟨m, rfl⟩ : ∃ m, j = i * 6 + m := ⟨j - i * 6, by omega⟩
    have hm : m < 6 := by omega
    rw [show i * 6 + m - i * 6 = m by omega]
    rcases m with _ | _ | _ | _ | _ | _ | m
    · simp [Nd.vals]
    · simp [Nd.vals]
    · simp [Nd.vals]
    · simp [Nd.vals]
    · simp [Nd.vals]
    · simp [Nd.vals]
    · omega
  · rw [if_neg hc, if_neg (by omega), if_neg (by omega), if_neg (by omega), if_neg (by omega), if_neg (by omega), if_neg (by omega)]

theorem Tb.any (h : Tb B N F P W) (j : Nat) (hj : j < 64) : ∃ v, W.cell? ⟨B, j, none⟩ = some v := by
  by_cases h1 : j < 48
  · have e : j = j / 6 * 6 + j % 6 := by omega
    rw [e]
    exact ⟨_, h.node (j / 6) (by omega) (j % 6) (by rw [Nd.vals_length]; omega)⟩
  · by_cases h2 : j < 56
    · have := h.fnd (j - 48) (by omega)
      rw [show 48 + (j - 48) = j by omega] at this
      exact ⟨_, this⟩
    · have := h.pth (j - 56) (by omega)
      rw [show 56 + (j - 56) = j by omega] at this
      exact ⟨_, this⟩

theorem Tb.putN (h : Tb B N F P W) {i : Nat} (hi : i < 8) (d : Nd) : Tb B (upN N i d) F P (TW.putN W B i d) := by
  have hc := putN_cell h.any hi d
  refine ⟨fun k hk j hj => ?_, fun k hk => ?_, fun k hk => ?_, fun j hj => ?_, ?_⟩
  · have hj' : j < 6 := hj
    rw [hc (k * 6 + j) (by omega)]
    by_cases e : k = i
    · subst e
      rw [if_pos (by omega), show k * 6 + j - k * 6 = j by omega]
      simp only [upN, if_pos rfl] at hj ⊢
      exact List.getElem?_eq_getElem hj
    · rw [if_neg (by omega)]
      simp only [upN, if_neg e] at hj ⊢
      exact h.node k hk j hj
  · rw [hc (48 + k) (by omega), if_neg (by omega)]
    exact h.fnd k hk
  · rw [hc (56 + k) (by omega), if_neg (by omega)]
    exact h.pth k hk
  · rw [World.frozen?_setCell, World.frozen?_setCell, World.frozen?_setCell, World.frozen?_setCell, World.frozen?_setCell, World.frozen?_setCell]
    exact h.free j hj
  · have := h.lt
    simpa [World.setCell] using this
end Go.Proofs.Ytddlpejklpljoaa.TW

/- What a sound memory is, plain; what readTree tells of it. -/
namespace Go.Proofs.Ytddlpejklpljoaa.TW
open Go.ChangeShapes Go.WideShapes Go.ChangeAt Go.RowKit
set_option linter.unusedVariables false
set_option linter.unusedSimpArgs false
set_option maxRecDepth 10000
variable {B : Nat} {N : Nat → Nd} {F : Nat → Nat} {P : Nat → ByteArray} {w W W' : World} {mem : ByteArray}

def tK (mem : ByteArray) (i : Nat) : Int := G0.gK (O0.recd mem (i : Int))
def tZ (mem : ByteArray) (i : Nat) : List Int := G0.gZ (O0.recd mem (i : Int))
def tE (mem : ByteArray) (i : Nat) : List T0.Ent := D1.nodeE mem (i : Int)
def hd : ByteArray := ⟨#[84, 78, 82, 49]⟩ ++ B4.zeros 28
theorem hd_laid : B5.laid (B4.zeros 32) 0 ⟨#[84, 78, 82, 49]⟩ = hd := by decide +kernel
def headOk (mem : ByteArray) : Bool := (B2.part mem 0 32).toList == hd.toList
def nodesOk (mem : ByteArray) : Bool := N0.to (fun i => D1.nodeOk mem (i : Int)) 8
/-- Whether a memory is one file system. -/
def sound (mem : ByteArray) : Bool := decide (mem.size = 768) && (headOk mem && (nodesOk mem && ((tK mem 0 == 2) && (decide (cat (tZ mem) 8).Nodup && TR.treeOk (tE mem) (tK mem)))))

theorem recd_far (mem : ByteArray) (i : Nat) (h : 8 ≤ i) : O0.recd mem (i : Int) = ⟨#[]⟩ := by
  unfold O0.recd L1.recAt B2.part
  have h1 : B1.inB (i : Int) 0 7 = false := by simp [B1.inB]; omega
  have h2 : B2.lies mem.size (-1) 16 = false := by simp [B2.lies]
  have h3 : (if B1.inB (i : Int) 0 7 = true then 32 + (i : Int) * 16 else -1) = -1 := by rw [h1]; rfl
  rw [h3, h2]
  rfl
theorem isI_empty : G0.isI ⟨#[]⟩ = false := by decide +kernel
theorem tK_far (mem : ByteArray) (i : Nat) (h : 8 ≤ i) : tK mem i = 0 := by
  unfold tK
  rw [recd_far mem i h]
  exact (G0.g_no isI_empty).1
theorem tZ_far (mem : ByteArray) (i : Nat) (h : 8 ≤ i) : tZ mem i = [] := by
  unfold tZ
  rw [recd_far mem i h]
  exact (G0.g_no isI_empty).2.2.2

theorem nodeE_dir (mem : ByteArray) (i : Int) (h : D1.nodeE mem i ≠ []) : G0.gK (O0.recd mem i) = 2 ∧ V0.isD (D1.data mem i) = true ∧ D1.nodeE mem i = V0.ents (D1.data mem i) ((D1.data mem i).size / 16) := by
  unfold D1.nodeE at h ⊢
  by_cases h2 : G0.gK (O0.recd mem i) = 2
  · rw [if_pos h2] at h ⊢
    unfold V0.dE at h ⊢
    cases hD : V0.isD (D1.data mem i) with
    | false => rw [hD] at h; exact absurd rfl h
    | true =>
      refine ⟨h2, rfl, ?_⟩
      rw [if_pos rfl, (V0.of_isD hD).2.2.1]
  · rw [if_neg h2] at h
    exact absurd rfl h

theorem ent_ok (mem : ByteArray) (i : Int) (e : T0.Ent) (h : e ∈ D1.nodeE mem i) : (0 < e.1 ∧ e.1 < 8) ∧ e.2.size ≤ 14 := by
  obtain ⟨_, hD, hE⟩ := nodeE_dir mem i (List.ne_nil_of_mem h)
  have hd := (V0.of_isD hD).2.2.2.2
  rw [hE] at h
  simp only [T0.dirOk, Bool.and_eq_true, decide_eq_true_eq] at hd
  obtain ⟨k, hk, he⟩ := List.mem_iff_getElem.1 h
  have h1 := (T0.okAt_entry (T0.okUpto_at hd.2 hk)).1
  rw [T0.ent_get _ _ hk, he] at h1
  obtain ⟨h2, h3⟩ := E0.entryOk_true h1
  refine ⟨by omega, ?_⟩
  simp only [E0.nameOk, Bool.and_eq_true] at h2
  have := B1.inB_true h2.2.1
  omega
theorem few_ok (mem : ByteArray) (i : Int) : (D1.nodeE mem i).length ≤ 12 := by
  by_cases h : D1.nodeE mem i = []
  · rw [h]
    decide
  · obtain ⟨_, hD, hE⟩ := nodeE_dir mem i h
    have := (V0.of_isD hD).1
    rw [hE, V0.ents_length]
    omega
theorem sane_ok (mem : ByteArray) : TR.Sane (tE mem) (tK mem) := ⟨fun d h => (nodeE_dir mem d h).1, fun d e h => (ent_ok mem d e h).1⟩
theorem pg_few (mem : ByteArray) (i : Nat) : (tZ mem i).length ≤ 12 := by
  unfold tZ
  cases h : G0.isI (O0.recd mem (i : Int)) with
  | true => exact Nat.le_trans (O0.got h).2.1 (by decide)
  | false => rw [(G0.g_no h).2.2.2]; decide

/-- A node that was read. -/
structure NdOk (mem : ByteArray) (B : Nat) (i : Nat) (d : Nd) (W : World) : Prop where
  k : d.k = tK mem i
  o : d.o = G0.gO (O0.recd mem (i : Int))
  n : d.n = (tZ mem i).length
  c : d.n ≤ d.c
  row : J0.Own (B + 1) W d.a (tZ mem i)
  ne : d.ne = (tE mem i).length
  ce : d.ne ≤ d.ce
  ents : V1.OwnE (B + 1) W d.ae (tE mem i)
  x : d.x = D1.nodeD mem (i : Int)
theorem NdOk.below {i : Nat} {d : Nd} (h : NdOk mem B i d W) (hb : Below W.heap.size W W') : NdOk mem B i d W' := ⟨h.k, h.o, h.n, h.c, h.row.below hb, h.ne, h.ce, h.ents.below hb, h.x⟩
theorem NdOk.set {i : Nat} {d : Nd} (h : NdOk mem B i d W) (j : Nat) (v : Value) : NdOk mem B i d (W.setCell ⟨B, j, none⟩ v) := ⟨h.k, h.o, h.n, h.c, h.row.set (Nat.lt_succ_self B) j v, h.ne, h.ce, N5.ownE_set h.ents (Nat.lt_succ_self B) j v, h.x⟩
theorem NdOk.putN {i : Nat} {d : Nd} (h : NdOk mem B i d W) (j : Nat) (u : Nd) : NdOk mem B i d (TW.putN W B j u) := (((((h.set _ _).set _ _).set _ _).set _ _).set _ _).set _ _
theorem own_gr {a : Option Addr} {zs : List Int} (h : J0.Own (B + 1) w a zs) (hg : w.grownBy W (some B)) : J0.Own (B + 1) W a zs :=
  h.imp id fun ⟨g, e, hb, hk⟩ => ⟨g, e, hb, blk_gr hk hg (by omega)⟩
theorem ownE_gr {a : Option Addr} {es : List T0.Ent} (h : V1.OwnE (B + 1) w a es) (hg : w.grownBy W (some B)) : V1.OwnE (B + 1) W a es := by
  refine h.imp id fun ⟨g, e, hb, hk⟩ => ⟨g, e, hb, ?_⟩
  have hc : ∀ x, W.cell? ⟨g, x, none⟩ = w.cell? ⟨g, x, none⟩ := fun x => World.cell?_of_block (a := ⟨g, x, none⟩) (hg.block g hk.lt (by simp; omega))
  have hf : ∀ x, W.frozen? ⟨g, x, none⟩ = w.frozen? ⟨g, x, none⟩ := fun x => World.frozen?_of_block (a := ⟨g, x, none⟩) (hg.block g hk.lt (by simp; omega))
  exact ⟨fun j hj => by rw [hc, hc]; exact hk.done j hj, fun j hj => by rw [hc]; exact hk.there j hj, fun j hj => by rw [hf]; exact hk.free j hj, Nat.lt_of_lt_of_le hk.lt hg.size⟩
theorem NdOk.gr {i : Nat} {d : Nd} (h : NdOk mem B i d w) (hg : w.grownBy W (some B)) : NdOk mem B i d W := ⟨h.k, h.o, h.n, h.c, own_gr h.row hg, h.ne, h.ce, ownE_gr h.ents hg, h.x⟩

/-- The nodes so far. -/
structure Rd (mem : ByteArray) (w : World) (k : Nat) (N : Nat → Nd) (W : World) : Prop where
  tb : Tb w.heap.size N (fun _ => 0) (fun _ => ⟨#[]⟩) W
  nd : ∀ i, i < k → NdOk mem w.heap.size i (N i) W
  far : ∀ i, k ≤ i → N i = zeroN
  bel : Below w.heap.size w W
theorem Rd.below {k : Nat} (h : Rd mem w k N W) (hb : Below W.heap.size W W') : Rd mem w k N W' := ⟨h.tb.below hb h.tb.lt, fun i hi => (h.nd i hi).below hb, h.far, h.bel.trans (hb.mono h.bel.size)⟩
theorem Rd.drew {k : Nat} (h : Rd mem w k N W) : Rd mem w k N W.drew := ⟨h.tb.drew, fun i hi => (h.nd i hi).below ((Below.refl _ _).drew), h.far, h.bel.drew⟩
theorem rd_new (mem : ByteArray) (w : World) : Rd mem w 0 (fun _ => zeroN) (w.alloc (.cells zcells.toArray 88)) := ⟨tb_new w, fun i hi => by omega, fun i _ => rfl, K0.below_new w _⟩
theorem Rd.step {k : Nat} {d : Nd} (h : Rd mem w k N W) (hk : k < 8) (hd : NdOk mem w.heap.size k d W) : Rd mem w (k + 1) (upN N k d) (TW.putN W w.heap.size k d) := by
  refine ⟨h.tb.putN hk d, fun i hi => ?_, fun i hi => ?_, ?_⟩
  · by_cases e : i = k
    · subst e
      simp only [upN, if_pos rfl]
      exact hd.putN i d
    · simp only [upN, if_neg e]
      exact (h.nd i (by omega)).putN k d
  · simp only [upN, if_neg (show ¬ i = k by omega)]
    exact h.far i (by omega)
  · exact (((((h.bel.setCell (p := ⟨w.heap.size, k * 6, none⟩) (Nat.le_refl _) _).setCell (p := ⟨w.heap.size, k * 6 + 1, none⟩) (Nat.le_refl _) _).setCell (p := ⟨w.heap.size, k * 6 + 2, none⟩) (Nat.le_refl _) _).setCell (p := ⟨w.heap.size, k * 6 + 3, none⟩) (Nat.le_refl _) _).setCell (p := ⟨w.heap.size, k * 6 + 4, none⟩) (Nat.le_refl _) _).setCell (p := ⟨w.heap.size, k * 6 + 5, none⟩) (Nat.le_refl _) _

theorem Rd.kinds (h : Rd mem w 8 N W) : (fun i => (N i).k) = tK mem := by
  funext i
  by_cases hi : i < 8
  · exact (h.nd i hi).k
  · rw [h.far i (by omega), tK_far mem i (by omega)]
    rfl
theorem Rd.ns (h : Rd mem w 8 N W) : Ns w.heap.size N (tE mem) W :=
  ⟨fun i hi => (h.nd i hi).ne, fun i hi => (h.nd i hi).ents, by rw [h.kinds]; exact sane_ok mem, fun i => few_ok mem i, fun i e he => (ent_ok mem i e he).2⟩
theorem Rd.ps (h : Rd mem w 8 N W) : Ps N (tZ mem) W := ⟨fun i hi => (h.nd i hi).n, fun i hi => (h.nd i hi).row.row, pg_few mem⟩

/-- The tree that was read. -/
structure Good (mem : ByteArray) (B : Nat) (N : Nat → Nd) (F : Nat → Nat) (P : Nat → ByteArray) (W : World) : Prop where
  tb : Tb B N F P W
  nd : ∀ i, i < 8 → NdOk mem B i (N i) W
  inv : TR.Inv (tE mem) (tK mem) [] F P
theorem Good.below (h : Good mem B N F P W) (hb : Below W.heap.size W W') : Good mem B N F P W' := ⟨h.tb.below hb h.tb.lt, fun i hi => (h.nd i hi).below hb, h.inv⟩
theorem Good.ps (h : Good mem B N F P W) : Ps N (tZ mem) W := ⟨fun i hi => (h.nd i hi).n, fun i hi => (h.nd i hi).row.row, pg_few mem⟩

/-- What readTree answers. -/
def Ans (mem : ByteArray) (w : World) (e : Ending) (w' : World) : Prop :=
  ∃ p, e = .returned (.tuple #[.pointer p, .bool (sound mem)]) ∧ Below w.heap.size w w' ∧ (sound mem = true → ∃ B N F P, p = some ⟨B, 0, none⟩ ∧ w.heap.size ≤ B ∧ Good mem B N F P w')
theorem ans_no {mem : ByteArray} {w w' : World} {p : Option Addr} (h : sound mem = false) (hb : Below w.heap.size w w') : Ans mem w (.returned (.tuple #[.pointer p, .bool false])) w' :=
  ⟨p, by rw [h], hb, fun h' => by rw [h] at h'; cases h'⟩
theorem ans_yes {mem : ByteArray} {w w' : World} (h : sound mem = true) (hb : Below w.heap.size w w') (hB : w.heap.size ≤ B) (hg : Good mem B N F P w') : Ans mem w (.returned (.tuple #[.pointer (some ⟨B, 0, none⟩), .bool true])) w' :=
  ⟨_, by rw [h], hb, fun _ => ⟨B, N, F, P, rfl, hB, hg⟩⟩
end Go.Proofs.Ytddlpejklpljoaa.TW

/- The contract of readTree. -/
namespace Go.Proofs.Ytddlpejklpljoaa.TW
open Go.ChangeShapes Go.WideShapes Go.ChangeAt Go.RowKit
set_option linter.unusedVariables false
set_option linter.unusedSimpArgs false
set_option maxRecDepth 10000
variable {B : Nat} {N : Nat → Nd} {F : Nat → Nat} {P : Nat → ByteArray} {w W W' : World} {mem : ByteArray}

set_option maxHeartbeats 4000000 in
theorem readTree (mem : ByteArray) (w : World) (hms : mem.size ≤ 281474976710656) : Calls Try.prog 34 #[.string mem] w (Ans mem w) := by
  have HN : Hid (∀ w', sound mem = false → Below w.heap.size w w' → Ans mem w (.returned (.tuple #[.pointer none, .bool false])) w') := fun w' h hb => ans_no h hb
  by_cases hm : mem.size = 768
  · have hz : sound mem = (headOk mem && (nodesOk mem && ((tK mem 0 == 2) && (decide (cat (tZ mem) 8).Nodup && TR.treeOk (tE mem) (tK mem))))) := by
      unfold sound
      rw [decide_eq_true hm, Bool.true_and]
    have hpt : Hid (∀ W, Calls Try.prog 54 #[.string mem, .int .i64 0, .int .i64 32] W fun e w' => e = .returned (.string (B2.part mem 0 32)) ∧ Below W.heap.size W w') := fun W => B2.impl_Part _ _ _ _ hms
    have hzr : Hid (∀ W, Calls Try.prog 56 #[.int .i64 32] W fun e w' => e = .returned (.string (B4.zeros 32)) ∧ Below W.heap.size W w') := fun W => B4.impl_Zeros 32 W
    have hwt : Hid (∀ W, Calls Try.prog 55 #[.string (B4.zeros 32), .int .i64 0, .string ⟨#[84, 78, 82, 49]⟩] W fun e w' => e = .returned (.string hd) ∧ Below W.heap.size W w') := fun W => by
      have := B5.impl_With (B4.zeros 32) 0 ⟨#[84, 78, 82, 49]⟩ W (by decide +kernel) (show 4 ≤ 281474976710656 by omega)
      rw [hd_laid] at this
      exact this
    have hho : headOk mem = ((B2.part mem 0 32).toList == hd.toList) := rfl
    obtain ⟨Q, hQ⟩ : ∃ Q, B2.part mem 0 32 = Q := ⟨_, rfl⟩
    obtain ⟨zz, hzz⟩ : ∃ zz, B4.zeros 32 = zz := ⟨_, rfl⟩
    obtain ⟨hh, hhh⟩ : ∃ hh, hd = hh := ⟨_, rfl⟩
    rw [hQ] at hpt hho
    rw [hhh] at hwt hho
    rw [hzz] at hzr hwt
    have e768 : ((mem.size : Int) != 768) = false := by simp; omega
    clear hQ hzz hhh
    cases hH : headOk mem with
    | false =>
      rw [hH] at hho
      rw [hH, Bool.false_and] at hz
      have hne : (Q.toList == hh.toList) = false := hho.symm
      clear hho hH
      go_enter Try.func34, Try.ntmps34
      go_wp2_with (first
        | (go_at_call 54; refine (hpt.out _).mono ?_; rintro e w1 ⟨rfl, b1⟩)
        | (go_at_call 56; refine (hzr.out _).mono ?_; rintro e w2 ⟨rfl, b2⟩)
        | (go_at_call 55; refine (hwt.out _).mono ?_; rintro e w3 ⟨rfl, b3⟩))
      go_ret2
      exact HN.out _ hz ((b1.trans (b2.mono b1.size)).trans (b3.mono (Nat.le_trans b1.size b2.size)))
    | true =>
      rw [hH] at hho
      rw [hH, Bool.true_and] at hz
      have hne : (Q.toList == hh.toList) = true := hho.symm
      have hz0 := (zero_of_info zeroTree).1
      have hrd0 : Hid (∀ W : World, Rd mem W 0 (fun _ => zeroN) (W.alloc (.cells zcells.toArray 88))) := fun W => rd_new mem W
      obtain ⟨ZC, hZC⟩ : ∃ ZC, zcells.toArray = ZC := ⟨_, rfl⟩
      rw [hZC] at hz0 hrd0
      have HZ : Hid (sound mem = (nodesOk mem && ((tK mem 0 == 2) && (decide (cat (tZ mem) 8).Nodup && TR.treeOk (tE mem) (tK mem))))) := hz
      clear hho hH hZC hz
      go_enter Try.func34, Try.ntmps34
      go_wp2_with (first
        | (go_at_call 54; refine (hpt.out _).mono ?_; rintro e w1 ⟨rfl, b1⟩)
        | (go_at_call 56; refine (hzr.out _).mono ?_; rintro e w2 ⟨rfl, b2⟩)
        | (go_at_call 55; refine (hwt.out _).mono ?_; rintro e w3 ⟨rfl, b3⟩))
      have l3 : Below w.heap.size w w3 := (b1.trans (b2.mono b1.size)).trans (b3.mono (Nat.le_trans b1.size b2.size))
      have r0 := hrd0.out w3
      clear b1 b2 b3 hpt hzr hwt hz0 hrd0 hne
      go_loopw [20] (fun i W => ∃ (k : Nat) (N : Nat → Nd), k ≤ 8 ∧ i = .int .i64 k ∧ N0.to (fun i => D1.nodeOk mem (i : Int)) k = true ∧ Rd mem w3 k N W) (fun i _ => 8 - (intOf i).toNat)
      case atStart => exact ⟨0, _, Nat.zero_le _, rfl, rfl, r0⟩
      case round =>
        obtain ⟨k, N, hk, rfl, hok, rd⟩ := hrel
        clear r0
        by_cases hlt : k < 8
        · have e1 : (0 : Int) ≤ (k : Int) := by omega
          have e2 : (k : Int) < 8 := by omega
          have hrn : Hid (∀ W, Calls Try.prog 57 #[.string mem, .int .i64 (k : Int)] W fun e w' => ∃ (q o t : Int) (a : Option Addr) (n c : Nat) (x : ByteArray) (ae : Option Addr) (ne ce : Nat), e = .returned (.tuple #[.agg #[.int .i64 q, .int .i64 o, .int .i64 t, .slice a n c, .string x, .slice ae ne ce], .bool (D1.nodeOk mem (k : Int))]) ∧ Below W.heap.size W w' ∧ (D1.nodeOk mem (k : Int) = true → ∀ B, B < W.heap.size → NdOk mem B k ⟨q, o, t, a, n, c, x, ae, ne, ce⟩ w')) := fun W =>
            (D1.readNode2 mem (k : Int) W hm).mono fun e w' ⟨q, o, t, a, n, c, x, ae, ne, ce, he, hb, hy⟩ => ⟨q, o, t, a, n, c, x, ae, ne, ce, he, hb, fun h B hB => by
              obtain ⟨h1, h2, h3, h4, h5, h6, h7, h8, h9⟩ := hy h
              exact ⟨h1, h2, h3, h4, h5.mono hB, h6, h7, h8.mono hB, h9⟩⟩
          cases hnk : D1.nodeOk mem (k : Int) with
          | false =>
            rw [hnk] at hrn
            have HR : Hid (sound mem = false) := by
              show sound mem = false
              rw [HZ.out, nodesOk, N0.to_bad hlt hnk, Bool.false_and]
            clear hnk hok hm
            go_wp2_with (go_at_call 57; refine (hrn.out _).mono ?_; rintro e w4 ⟨q, o, t, a, n, c, x, ae, ne, ce, rfl, b4, -⟩)
            go_ret2
            exact HN.out _ HR.out (l3.trans ((((rd.below b4).bel).alloc (Nat.le_trans rd.bel.size b4.size) _).mono l3.size))
          | true =>
            rw [hnk] at hrn
            have HO : Hid (N0.to (fun i => D1.nodeOk mem (i : Int)) (k + 1) = true) := N0.to_step hok hnk
            clear hnk hok hm
            go_wp2_with (go_at_call 57; refine (hrn.out _).mono ?_; rintro e w4 ⟨q, o, t, a, n, c, x, ae, ne, ce, rfl, b4, hy⟩)
            have rd5 := (rd.below b4).below (K0.below_new w4 (.cells #[.int .i64 q, .int .i64 o, .int .i64 t, .slice a n c, .string x, .slice ae ne ce] 83))
            have nd5 : NdOk mem w3.heap.size k ⟨q, o, t, a, n, c, x, ae, ne, ce⟩ (w4.alloc (.cells #[.int .i64 q, .int .i64 o, .int .i64 t, .slice a n c, .string x, .slice ae ne ce] 83)) := (hy (by trivial) w3.heap.size (rd.tb.lt)).below (K0.below_new w4 _)
            have rd6 := rd5.step hlt nd5
            have nb := K0.blk_new [.int .i64 q, .int .i64 o, .int .i64 t, .slice a n c, .string x, .slice ae ne ce] w4 83
            obtain ⟨v0, v1, v2, v3, v4, v5⟩ := D1.cells6 nb
            have hany := fun j hj => rd5.tb.any (k * 6 + j) (by omega : k * 6 + j < 64)
            obtain ⟨y0, u0⟩ := hany 0 (by omega)
            obtain ⟨y1, u1⟩ := hany 1 (by omega)
            obtain ⟨y2, u2⟩ := hany 2 (by omega)
            obtain ⟨y3, u3⟩ := hany 3 (by omega)
            obtain ⟨y4, u4⟩ := hany 4 (by omega)
            obtain ⟨y5, u5⟩ := hany 5 (by omega)
            have f0 := rd5.tb.free (k * 6) (by omega)
            have f1 := rd5.tb.free (k * 6 + 1) (by omega)
            have f2 := rd5.tb.free (k * 6 + 2) (by omega)
            have f3 := rd5.tb.free (k * 6 + 3) (by omega)
            have f4 := rd5.tb.free (k * 6 + 4) (by omega)
            have f5 := rd5.tb.free (k * 6 + 5) (by omega)
            rw [Nat.add_zero] at u0
            have HD : Hid (Rd mem w3 (k + 1) (upN N k ⟨q, o, t, a, n, c, x, ae, ne, ce⟩) (putN (w4.alloc (.cells #[.int .i64 q, .int .i64 o, .int .i64 t, .slice a n c, .string x, .slice ae ne ce] 83)) w3.heap.size k ⟨q, o, t, a, n, c, x, ae, ne, ce⟩)) := rd6
            clear rd5 nd5 rd6 nb hany hy rd b4 hrn
            go_region
            go_wp2
            go_roundw
            case rel => exact ⟨k + 1, _, by omega, by go_num, HO.out, HD.out.drew⟩
            case measure => simp [intOf]; omega
        · obtain rfl : k = 8 := by omega
          have hz : sound mem = ((tK mem 0 == 2) && (decide (cat (tZ mem) 8).Nodup && TR.treeOk (tE mem) (tK mem))) := by
            rw [HZ.out, nodesOk, hok, Bool.true_and]
          have x0 := rd.tb.kind (i := 0) (by decide)
          rw [(rd.nd 0 (by decide)).k, Nat.zero_mul] at x0
          have hpa := pagesApart wr rd.tb rd.ps
          have HR : Hid (Rd mem w3 8 N wr) := rd
          have e88 : decide ((8 : Int) < 8) = false := by decide
          have hbl := rd.bel
          by_cases hk2 : tK mem 0 = 2
          · have HW : Hid (∀ W, Below wr.heap.size wr W → Calls Try.prog 59 #[.pointer (some ⟨w3.heap.size, 0, none⟩)] W fun e w' => W.grownBy w' (some w3.heap.size) ∧ ((e = .returned (.bool false) ∧ TR.treeOk (tE mem) (tK mem) = false) ∨ (e = .returned (.bool true) ∧ ∃ F P, Tb w3.heap.size N F P w' ∧ TR.Inv (tE mem) (tK mem) [] F P ∧ ∀ x, F x ≤ 281474976710656))) := fun W hb => by
              have rd' := rd.below hb
              have := walk W rd'.tb rd'.ns ((rd.nd 0 (by decide)).k.trans hk2)
              rw [rd.kinds] at this
              exact this
            have HF : Hid (∀ W F P, Tb w3.heap.size N F P W → (∀ x, F x ≤ 281474976710656) → Calls Try.prog 60 #[.pointer (some ⟨w3.heap.size, 0, none⟩)] W fun e w' => e = .returned (.bool (TR.onceAll F (tK mem))) ∧ w' = W) := fun W F P h hF => by
              have := foundOnce W h (fun i _ => hF i)
              rw [rd.kinds] at this
              exact this
            rw [hk2] at x0
            rw [hk2, show ((2 : Int) == 2) = true from rfl, Bool.true_and] at hz
            have HK : Hid (tK mem 0 = 2) := hk2
            clear rd hok hk2
            cases hnd : decide (cat (tZ mem) 8).Nodup with
            | false =>
              rw [hnd] at hpa
              rw [hnd, Bool.false_and] at hz
              clear hnd
              go_wp2_with (go_at_call 58; refine hpa.mono ?_; rintro e w5 ⟨rfl, b5⟩)
              go_ret2
              exact HN.out _ hz (l3.trans ((hbl.trans (b5.mono hbl.size)).mono l3.size))
            | true =>
              rw [hnd] at hpa
              rw [hnd, Bool.true_and] at hz
              have HZ2 : Hid (sound mem = TR.treeOk (tE mem) (tK mem)) := hz
              clear hnd hz
              have HB : Hid (∀ w5 w6, Below wr.heap.size wr w5 → w5.grownBy w6 (some w3.heap.size) → Below w.heap.size w w6) := fun w5 w6 b5 g6 => l3.trans (((hbl.trans (b5.mono hbl.size)).trans (below_gr g6 (Nat.le_refl _) (Nat.le_trans hbl.size b5.size))).mono l3.size)
              cases hto : TR.treeOk (tE mem) (tK mem) with
              | true =>
                have HS : Hid (sound mem = true) := HZ2.out.trans hto
                go_wp2_with (first
                  | (go_at_call 58; refine hpa.mono ?_; rintro e w5 ⟨rfl, b5⟩)
                  | (go_at_call 59; refine (HW.out _ b5).mono ?_; rintro e w6 ⟨g6, h6⟩; have h7 := h6.resolve_left (fun q => by rw [hto] at q; exact absurd q.2 (by simp)); obtain ⟨rfl, F, P, t6, i6, hF6⟩ := h7; have hfo := HF.out w6 F P t6 hF6; rw [i6.done (sane_ok mem) HK.out, hto] at hfo)
                  | (go_at_call 60; refine hfo.mono ?_; rintro e w7 ⟨rfl, rfl⟩))
                go_ret2
                refine ans_yes HS.out (HB.out _ _ b5 g6) l3.size ⟨t6, fun i hi => ((HR.out.nd i hi).below b5).gr g6, i6⟩
              | false =>
                have HS : Hid (sound mem = false) := HZ2.out.trans hto
                have HW2 : Hid (∀ W, Below wr.heap.size wr W → Calls Try.prog 59 #[.pointer (some ⟨w3.heap.size, 0, none⟩)] W fun e w' => W.grownBy w' (some w3.heap.size) ∧ ((e = .returned (.bool false) ∧ TR.treeOk (tE mem) (tK mem) = false) ∨ (e = .returned (.bool true) ∧ ∃ F P, Tb w3.heap.size N F P w' ∧ TR.Inv (tE mem) (tK mem) [] F P ∧ ∀ x, F x ≤ 281474976710656))) := HW.out
                go_wp2_with (first
                  | (go_at_call 58; refine hpa.mono ?_; rintro e w5 ⟨rfl, b5⟩)
                  | (go_at_call 59; refine (HW2.out _ b5).mono ?_; rintro e w6 ⟨g6, h6⟩; rcases h6 with ⟨rfl, ht⟩ | ⟨rfl, F, P, t6, i6, hF6⟩))
                · go_ret2
                  exact HN.out _ HS.out (HB.out _ _ b5 g6)
                · have hfo := HF.out w6 F P t6 hF6
                  rw [i6.done (sane_ok mem) HK.out, hto] at hfo
                  go_wp2_with (go_at_call 60; refine hfo.mono ?_; rintro e w7 ⟨rfl, rfl⟩)
                  go_ret2
                  exact HN.out _ HS.out (HB.out _ _ b5 g6)
          · have hk2' : (tK mem 0 != 2) = true := by simpa using hk2
            rw [show (tK mem 0 == 2) = false by simpa using hk2, Bool.false_and] at hz
            clear rd hpa hok
            go_wp2
            go_ret2
            exact HN.out _ hz (l3.trans (hbl.mono l3.size))
  · have hz : sound mem = false := by
      unfold sound
      rw [decide_eq_false hm, Bool.false_and]
    have e768 : ((mem.size : Int) != 768) = true := by simp; omega
    clear hm
    go_enter Try.func34, Try.ntmps34
    go_wp2
    go_ret2
    exact HN.out _ hz (Below.refl _ _)
end Go.Proofs.Ytddlpejklpljoaa.TW

/- Plain facts on paths: the way down and the way up tell the same. -/
namespace Go.Proofs.Ytddlpejklpljoaa.TR
open T0 (Ent)
set_option linter.unusedVariables false
set_option linter.unusedSimpArgs false
variable {E : Nat → List Ent} {K : Nat → Int} {F : Nat → Nat} {P : Nat → ByteArray} {d k x : Nat}

/-- The path's text, nothing for inode 0. -/
def At2 (E : Nat → List Ent) : Nat → Nat → ByteArray → Prop
  | x, 0, p => x = 0 ∧ p = ⟨#[]⟩
  | x, k + 1, p => ∃ d q nm, At2 E d k q ∧ ((x : Int), nm) ∈ E d ∧ p = q ++ (⟨#[47]⟩ ++ nm)
theorem At2.zero {E : Nat → List Ent} : At2 E 0 0 ⟨#[]⟩ := ⟨rfl, rfl⟩
theorem At2.down {E : Nat → List Ent} {d k : Nat} {q : ByteArray} {x : Nat} {nm : ByteArray} (h : At2 E d k q) (hm : ((x : Int), nm) ∈ E d) : At2 E x (k + 1) (q ++ (⟨#[47]⟩ ++ nm)) := ⟨d, q, nm, h, hm, rfl⟩
theorem At2.or {E : Nat → List Ent} {x : Nat} {p : ByteArray} : ∀ {k : Nat}, At2 E x k p → (x = 0 ∧ k = 0 ∧ p = ⟨#[]⟩) ∨ ∃ d k' q nm, k = k' + 1 ∧ At2 E d k' q ∧ ((x : Int), nm) ∈ E d ∧ p = q ++ (⟨#[47]⟩ ++ nm)
  | 0, h => Or.inl ⟨h.1, rfl, h.2⟩
  | k + 1, ⟨d, q, nm, h, hm, e⟩ => Or.inr ⟨d, k, q, nm, rfl, h, hm, e⟩
theorem At2.ind {E : Nat → List Ent} {motive : (x k : Nat) → (p : ByteArray) → At2 E x k p → Prop} (zero : motive 0 0 ⟨#[]⟩ At2.zero) (down : ∀ {d k : Nat} {q : ByteArray} {x : Nat} {nm : ByteArray} (hd : At2 E d k q) (hm : ((x : Int), nm) ∈ E d), motive d k q hd → motive x (k + 1) (q ++ (⟨#[47]⟩ ++ nm)) (At2.down hd hm)) : ∀ {x k : Nat} {p : ByteArray} (h : At2 E x k p), motive x k p h
  | x, 0, p, h => by
    obtain ⟨rfl, rfl⟩ := h
    exact zero
  | x, k + 1, p, h => by
    obtain ⟨d, q, nm, hd, hm, rfl⟩ := h
    exact down hd hm (At2.ind zero down hd)

def full (q : ByteArray) : ByteArray := if q.size = 0 then ⟨#[47]⟩ else q

theorem app_nil (a : ByteArray) : a ++ ⟨#[]⟩ = a := by
  apply ByteArray.ext
  simp [ByteArray.data_append]
theorem nil_app (a : ByteArray) : (⟨#[]⟩ : ByteArray) ++ a = a := by
  apply ByteArray.ext
  simp [ByteArray.data_append]
theorem app_assoc (a b c : ByteArray) : (a ++ b) ++ c = a ++ (b ++ c) := by
  apply ByteArray.ext
  simp [ByteArray.data_append]

theorem at_two (hS : Sane E K) {p : ByteArray} (h : At E x k p) : ∃ q, At2 E x k q ∧ p = full q ∧ (0 < x → 0 < q.size) ∧ (x = 0 → q = ⟨#[]⟩) := by
  induction h using At.ind with
  | zero => exact ⟨⟨#[]⟩, At2.zero, rfl, fun h => absurd h (by decide), fun _ => rfl⟩
  | @down d k p x nm hd hm ih =>
    obtain ⟨q, hq, hp, h1, h2⟩ := ih
    have hx := (hS.ino _ _ hm).1
    have hne : 0 < (q ++ ((⟨#[47]⟩ : ByteArray) ++ nm)).size := by
      rw [ByteArray.size_append, ByteArray.size_append]
      have : (⟨#[47]⟩ : ByteArray).size = 1 := rfl
      omega
    refine ⟨_, At2.down hq hm, ?_, fun _ => hne, fun e => ?_⟩
    · rw [full, if_neg (by omega)]
      by_cases h0 : d = 0
      · rw [h2 h0] at hp ⊢
        rw [hp, sep, if_pos h0, app_nil, nil_app]
        rfl
      · have := h1 (by omega)
        rw [full, if_neg (by omega)] at hp
        rw [hp, sep, if_neg h0, app_assoc]
    · simp only at hx
      omega

theorem At2.size (hs : ∀ i e, e ∈ E i → e.2.size ≤ 14) {q : ByteArray} (h : At2 E x k q) : q.size ≤ 15 * k := by
  induction h using At2.ind with
  | zero => decide
  | @down d k q x nm _ hm ih =>
    have := hs _ _ hm
    rw [ByteArray.size_append, ByteArray.size_append]
    have h1 : (⟨#[47]⟩ : ByteArray).size = 1 := rfl
    simp only at this
    omega

/-- In a right tree an entry is the only one of its inode. -/
theorem only (ht : treeOk E K = true) (hS : Sane E K) {e : Ent} (hd : d < 8) (he : e ∈ E d) : own (flat E 8) e.1 = [(d, e)] := by
  have hi := hS.ino _ _ he
  obtain ⟨x, hx⟩ : ∃ x : Nat, e.1 = (x : Int) := ⟨e.1.toNat, by omega⟩
  have m1 : (d, e) ∈ own (flat E 8) e.1 := List.mem_filter.2 ⟨mem_flat he hd, by simp⟩
  have hone := treeOk_iff.1 ht x (by omega) (by omega)
  rw [hx] at m1 ⊢
  unfold oneOk at hone
  simp only [Bool.and_eq_true, beq_iff_eq, Bool.or_eq_true] at hone
  rcases par_ge (flat E 8) x with hp | hp | ⟨p, hp, _⟩
  · rw [(par_nil _ _).1 hp] at m1
    simp at m1
  · rcases hone.2 with hk | hr
    · rw [hk, hp] at hone
      simp at hone
    · rw [root_pos _ _ _ (by omega), hp, root_neg _ _ _ (by decide)] at hr
      cases hr
  · rw [hp] at m1 ⊢
    simp only [List.mem_singleton] at m1
    rw [m1]
theorem par_of (ht : treeOk E K = true) (hS : Sane E K) {e : Ent} (hd : d < 8) (he : e ∈ E d) : par (flat E 8) e.1 = d ∧ nam (flat E 8) e.1 = e.2 := by
  have h := only ht hS hd he
  unfold par nam
  rw [h]
  exact ⟨rfl, rfl⟩

/-- What was found is what there is, and its path. -/
theorem found_at (h : Inv E K [] F P) (hS : Sane E K) (hK0 : K 0 = 2) (ht : treeOk E K = true) (hx : x < 8) (hk : K x ≠ 0) : ∃ k, k ≤ 8 ∧ At E x k (P x) := by
  by_cases h0 : x = 0
  · subst h0
    rw [h.zero]
    exact ⟨0, by decide, At.zero⟩
  · have hd := h.done hS hK0
    rw [ht] at hd
    have := onceAll_iff.1 hd x (by omega) hx
    simp only [once, decide_eq_true_eq] at this
    rw [if_neg hk] at this
    exact h.at_ x (by omega)
end Go.Proofs.Ytddlpejklpljoaa.TR

/- The contract of impl.Load, as the given laws call it. -/
namespace Go.Proofs.Ytddlpejklpljoaa.O2
open Go.ChangeShapes Go.WideShapes Go.ChangeAt Go.RowKit
set_option linter.unusedVariables false
set_option linter.unusedSimpArgs false
set_option maxRecDepth 10000

open I0 (val vals)

/-- What Load answers. -/
def Ans (mem : ByteArray) (i : Int) (w : World) (e : Ending) (w' : World) : Prop :=
  ∃ a c, e = .returned (.tuple #[val (O0.lK mem i) (O0.lO mem i) (O0.lS mem i) a (O0.lZ mem i).length c, .string (O0.lD mem i), .bool (O0.isL mem i)]) ∧ J0.Own w.heap.size w' a (O0.lZ mem i) ∧ (O0.lZ mem i).length ≤ c ∧ Below w.heap.size w w'

theorem ans_no {mem : ByteArray} {i : Int} {w w' : World} (h : O0.isL mem i = false) (hb : Below w.heap.size w w') : Ans mem i w (.returned (.tuple #[val 0 0 0 none 0 0, .string ⟨#[]⟩, .bool false])) w' := by
  obtain ⟨h1, h2, h3, h4, h5⟩ := O0.l_no h
  exact ⟨none, 0, by rw [h1, h2, h3, h4, h5, h]; rfl, by rw [h4]; exact Or.inl rfl, by rw [h4]; exact Nat.le_refl _, hb⟩

theorem ans_yes {mem : ByteArray} {i : Int} {w w' : World} {a : Option Addr} {c : Nat} (h : O0.isL mem i = true) (ho : J0.Own w.heap.size w' a (G0.gZ (O0.recd mem i))) (hc : (G0.gZ (O0.recd mem i)).length ≤ c) (hb : Below w.heap.size w w') :
    Ans mem i w (.returned (.tuple #[val (G0.gK (O0.recd mem i)) (G0.gO (O0.recd mem i)) (G0.gS (O0.recd mem i)) a (G0.gZ (O0.recd mem i)).length c, .string ((O0.joined mem (G0.gZ (O0.recd mem i)) (G0.gZ (O0.recd mem i)).length).extract 0 (G0.gS (O0.recd mem i)).toNat), .bool true])) w' := by
  obtain ⟨h1, h2, h3, h4, h5⟩ := O0.l_yes h
  exact ⟨a, c, by rw [h1, h2, h3, h4, h5, h], by rw [h4]; exact ho, by rw [h4]; exact hc, hb⟩

/-- The record, read, where it is none's. -/
theorem read_yes {s : ByteArray} {W : World} (hs : s.size ≤ 281474976710656) (h : G0.isI s = true) {v : Value → Value} (hv : ∀ x, I1.rec (B1.byteAt s 0) x = v x) :
    Calls Try.prog 92 #[.string s] W fun e w' => ∃ a c, e = .returned (.tuple #[v (val (G0.gK s) (G0.gO s) (G0.gS s) a (G0.gZ s).length c), .bool true]) ∧ J0.Own W.heap.size w' a (G0.gZ s) ∧ (G0.gZ s).length ≤ c ∧ Below W.heap.size W w' := by
  obtain ⟨e1, e2, e3, e4⟩ := G0.g_yes h
  rw [e1, e2, e3, e4]
  exact G3.read_yes hs h hv

/-- The answer's block and the inode's own. -/
structure Ls (w : World) (B : Nat) (k o s : Int) (a : Option Addr) (zs : List Int) (c : Nat) (W : World) : Prop where
  rs : G3.Rs w a zs W
  nb : K0.Blk B (vals k o s a zs.length c) W
  ne : w.heap.size < B

variable {w W W' : World} {B : Nat} {k o s : Int} {a : Option Addr} {zs : List Int} {c : Nat}

theorem Ls.below (h : Ls w B k o s a zs c W) (hb : Below W.heap.size W W') : Ls w B k o s a zs c W' := ⟨h.rs.below hb, h.nb.below hb, h.ne⟩
theorem Ls.drew (h : Ls w B k o s a zs c W) : Ls w B k o s a zs c W.drew := ⟨⟨h.rs.res.drew, h.rs.own.drew, h.rs.bel.drew⟩, h.nb.drew, h.ne⟩
theorem ls_new (h : G3.Rs w a zs W) : Ls w W.heap.size k o s a zs c (W.alloc (.cells #[.int .i64 k, .int .i64 o, .int .i64 s, .slice a zs.length c] 45)) :=
  ⟨h.below (K0.below_new _ _), K0.blk_new (vals k o s a zs.length c) W 45, h.res.lt⟩

end Go.Proofs.Ytddlpejklpljoaa.O2

/- The contracts of impl.Load and spec.Load, as the given laws call them. -/
namespace Go.Proofs.Ytddlpejklpljoaa.O3
open Go.ChangeShapes Go.WideShapes Go.ChangeAt Go.RowKit
set_option linter.unusedVariables false
set_option linter.unusedSimpArgs false
set_option maxRecDepth 10000

open I0 (val vals)
open O2 (Ans ans_no ans_yes)

open O2 (Ls ls_new)

set_option maxHeartbeats 4000000 in
theorem spec_Load (mem : ByteArray) (i : Int) (w : World) (hms : mem.size ≤ 281474976710656) : Calls Try.prog 31 #[.string mem, .int .i64 i] w (Ans mem i w) := by
  have hrs := O0.recd_size mem i hms
  have hG : Hid (∀ W, Calls Try.prog 50 #[.string (O0.recd mem i)] W (G3.Ans (O0.recd mem i) W)) := fun W => G4.spec_GetInode _ _ hrs
  have hRc : Hid (∀ W, Calls Try.prog 51 #[.string mem, .int .i64 i] W fun e w' => e = .returned (.string (O0.recd mem i)) ∧ w' = W) := fun W => O1.l03Rec mem i W hms
  by_cases hL : O0.isL mem i = true
  · have hl := hL
    simp only [O0.isL, Bool.and_eq_true, decide_eq_true_eq, Bool.not_eq_true'] at hl
    obtain ⟨hm, hI, hk⟩ := hl
    have hk' : ¬ B1.byteAt (O0.recd mem i) 0 = 0 := of_decide_eq_false hk
    have g8 : ((mem.size : Int) != 768) = false := by simp; omega
    have hg := O0.got hI
    have hK0 : (G0.gK (O0.recd mem i) == 0) = false := by
      rw [(G0.g_yes hI).1]
      simpa using hk'
    have HF : Hid (∀ a c w', J0.Own w.heap.size w' a (G0.gZ (O0.recd mem i)) → (G0.gZ (O0.recd mem i)).length ≤ c → Below w.heap.size w w' → Ans mem i w (.returned (.tuple #[val (G0.gK (O0.recd mem i)) (G0.gO (O0.recd mem i)) (G0.gS (O0.recd mem i)) a (G0.gZ (O0.recd mem i)).length c, .string ((O0.joined mem (G0.gZ (O0.recd mem i)) (G0.gZ (O0.recd mem i)).length).extract 0 (G0.gS (O0.recd mem i)).toNat), .bool true])) w') := fun a c w' => ans_yes hL
    have hA : Hid (∀ W e w', G3.Ans (O0.recd mem i) W e w' → ∃ a c, e = .returned (.tuple #[val (G0.gK (O0.recd mem i)) (G0.gO (O0.recd mem i)) (G0.gS (O0.recd mem i)) a (G0.gZ (O0.recd mem i)).length c, .bool true]) ∧ J0.Own W.heap.size w' a (G0.gZ (O0.recd mem i)) ∧ (G0.gZ (O0.recd mem i)).length ≤ c ∧ Below W.heap.size W w') := fun W e w' ⟨a, c, he, ho, hc, hb⟩ => ⟨a, c, by rw [he, hI], ho, hc, hb⟩
    clear hk hk' hL hI hrs
    obtain ⟨R, hR⟩ : ∃ R, O0.recd mem i = R := ⟨_, rfl⟩
    rw [hR] at hg HF hA hG hRc hK0
    obtain ⟨K, hK⟩ : ∃ K, G0.gK R = K := ⟨_, rfl⟩
    obtain ⟨O, hO⟩ : ∃ O, G0.gO R = O := ⟨_, rfl⟩
    obtain ⟨S, hS⟩ : ∃ S, G0.gS R = S := ⟨_, rfl⟩
    obtain ⟨Z, hZ⟩ : ∃ Z, G0.gZ R = Z := ⟨_, rfl⟩
    rw [hK, hO, hS, hZ] at HF hA
    rw [hK, hS, hZ] at hg
    rw [hK] at hK0
    obtain ⟨⟨s0, s1⟩, zl, s2, hp, -⟩ := hg
    clear hK hO hS hZ hR
    go_enter Try.func31, Try.ntmps31
    go_wp2_with (first
      | (go_at_call 51; refine (hRc.out _).mono ?_; rintro e w' ⟨rfl, rfl⟩)
      | (go_at_call 50; refine (hG.out _).mono ?_; intro e w1 hans; obtain ⟨a, c, rfl, ho, hc, b1⟩ := hA.out _ _ _ hans; clear hans; have r1 : G3.Rs w a Z w1 := G3.rs_new b1 ho; have l1 := ls_new (k := K) (o := O) (s := S) (c := c) r1))
    obtain ⟨W1, hW1⟩ : ∃ W1, w1.alloc (.cells #[.int .i64 K, .int .i64 O, .int .i64 S, .slice a Z.length c] 45) = W1 := ⟨_, rfl⟩
    rw [hW1] at l1 ⊢
    have x0 := l1.nb.c0
    have x1 := l1.nb.c1
    have x2 := l1.nb.c2
    have x3 := l1.nb.c3
    clear hW1 b1 ho r1
    go_loop [9, 10] (fun t j => ∃ k : Nat, k ≤ Z.length ∧ j = .int .i64 k ∧ t = .string (O0.joined mem Z k)) (fun _ j => Z.length - (intOf j).toNat)
    case atStart => exact ⟨0, Nat.zero_le _, rfl, rfl⟩
    case round =>
      obtain ⟨k, hk, rfl, rfl⟩ := hrel
      have hjs := O0.joined_size hm hp k hk
      by_cases hlt : k < Z.length
      · obtain ⟨b, off, rfl, hb, hcell⟩ := l1.rs.own.row.get hlt
        have y1 := hcell k hlt
        have hz := R0.pages_bounds hp hlt
        have hu : O0.joined mem Z (k + 1) = O0.joined mem Z k ++ B2.part mem (Z.getD k 0 * 32) 32 := rfl
        obtain ⟨z, ez⟩ : ∃ z, Z.getD k 0 = z := ⟨_, rfl⟩
        rw [ez] at y1 hz hu
        have hps := O0.page_size hm hz.1 hz.2
        have e1 : (0 : Int) ≤ (k : Int) := by omega
        have e2 : (k : Int) < (Z.length : Int) := by omega
        have zz : 32 * k + 32 ≤ 9223372036854775807 := by omega
        have hpg : Hid (∀ W, Calls Try.prog 52 #[.string mem, .int .i64 z] W fun e w' => e = .returned (.string (B2.part mem (z * 32) 32)) ∧ W = w') := fun W => (O1.l03Page mem z W hms hz.1 hz.2).mono fun _ _ h => ⟨h.1, h.2.symm⟩
        have HU : Hid (O0.joined mem Z (k + 1) = O0.joined mem Z k ++ B2.part mem (z * 32) 32) := hu
        clear hu ez hcell hz
        go_wp2_with (go_at_call 52; refine (hpg.out _).mono ?_; rintro e w' ⟨rfl, rfl⟩)
        go_round
        case rel => exact ⟨k + 1, by omega, by go_num, by rw [HU.out]⟩
        case measure => simp [intOf]; omega
      · obtain rfl : k = Z.length := by omega
        have i1 : S ≤ 32 * (Z.length : Int) := s2
        have c0 := l1.rs.res.c0
        have c1 := l1.rs.res.c1
        have c2 := l1.rs.res.c2
        have c3 := l1.rs.res.c3
        have f0 := l1.rs.res.f0
        have f1 := l1.rs.res.f1
        have f2 := l1.rs.res.f2
        have f3 := l1.rs.res.f3
        have i2 : S ≤ ((32 * Z.length : Nat) : Int) := by omega
        have hnb := (((l1.nb.setOther (B' := w.heap.size) (by have := l1.ne; omega) 0 (.int .i64 K)).setOther (B' := w.heap.size) (by have := l1.ne; omega) 1 (.int .i64 O)).setOther (B' := w.heap.size) (by have := l1.ne; omega) 2 (.int .i64 S)).setOther (B' := w.heap.size) (by have := l1.ne; omega) 3 (.slice a Z.length c)
        have y2 := hnb.c2
        clear hnb
        go_wp2
        go_region
        all_goals
          have q := l1.rs.res.put4 (.int .i64 K) (.int .i64 O) (.int .i64 S) (.slice a Z.length c)
          have d := l1.rs.done (.int .i64 K) (.int .i64 O) (.int .i64 S) (.slice a Z.length c)
          go_wp2
          refine bodyPost_ret (v := .tuple #[val K O S a Z.length c, .string ((O0.joined mem Z Z.length).extract 0 S.toNat), .bool true]) (by simp [results, Try.results31, go_sem, q.c0, q.c1, q.c2, q.c3]) rfl (HF.out _ _ _ ?_ hc ?_)
          · exact d.1.drew
          · exact d.2.drew
  · have hL' : O0.isL mem i = false := by simpa using hL
    have HF : Hid (∀ w', Below w.heap.size w w' → Ans mem i w (.returned (.tuple #[val 0 0 0 none 0 0, .string ⟨#[]⟩, .bool false])) w') := fun w' => ans_no hL'
    have hA : Hid (∀ W e w', G3.Ans (O0.recd mem i) W e w' → ∃ a c, e = .returned (.tuple #[val (G0.gK (O0.recd mem i)) (G0.gO (O0.recd mem i)) (G0.gS (O0.recd mem i)) a (G0.gZ (O0.recd mem i)).length c, .bool (G0.isI (O0.recd mem i))]) ∧ J0.Own W.heap.size w' a (G0.gZ (O0.recd mem i)) ∧ (G0.gZ (O0.recd mem i)).length ≤ c ∧ Below W.heap.size W w') := fun W e w' h => h
    have hcase : ((mem.size : Int) != 768) = true ∨ (((mem.size : Int) != 768) = false ∧ G0.isI (O0.recd mem i) = false) ∨ (((mem.size : Int) != 768) = false ∧ G0.isI (O0.recd mem i) = true ∧ (G0.gK (O0.recd mem i) == 0) = true) := by
      by_cases hm : mem.size = 768
      · right
        have g8 : ((mem.size : Int) != 768) = false := by simp; omega
        cases hI : G0.isI (O0.recd mem i) with
        | false => exact Or.inl ⟨g8, rfl⟩
        | true =>
          refine Or.inr ⟨g8, rfl, ?_⟩
          rw [(G0.g_yes hI).1]
          by_cases h0 : B1.byteAt (O0.recd mem i) 0 = 0
          · simpa using h0
          · rw [O0.isL_of hm hI h0] at hL'
            cases hL'
      · left
        simp
        omega
    clear hL hL' hrs
    obtain ⟨R, hR⟩ : ∃ R, O0.recd mem i = R := ⟨_, rfl⟩
    rw [hR] at hA hG hRc hcase
    obtain ⟨K, hK⟩ : ∃ K, G0.gK R = K := ⟨_, rfl⟩
    obtain ⟨O, hO⟩ : ∃ O, G0.gO R = O := ⟨_, rfl⟩
    obtain ⟨S, hS⟩ : ∃ S, G0.gS R = S := ⟨_, rfl⟩
    obtain ⟨Z, hZ⟩ : ∃ Z, G0.gZ R = Z := ⟨_, rfl⟩
    rw [hK, hO, hS, hZ] at hA
    rw [hK] at hcase
    clear hK hO hS hZ hR
    rcases hcase with g8 | ⟨g8, gI⟩ | ⟨g8, gI, gK⟩
    all_goals
      go_enter Try.func31, Try.ntmps31
      go_wp2_with (first
        | (go_at_call 51; refine (hRc.out _).mono ?_; rintro e w' ⟨rfl, rfl⟩)
        | (go_at_call 50; refine (hG.out _).mono ?_; intro e w1 hans; obtain ⟨a, c, rfl, ho, hc, b1⟩ := hA.out _ _ _ hans; clear hans; have r1 : G3.Rs w a Z w1 := G3.rs_new b1 ho; have l1 := ls_new (k := K) (o := O) (s := S) (c := c) r1; have x0 := l1.nb.c0; have c0 := l1.rs.res.c0; have c1 := l1.rs.res.c1; have c2 := l1.rs.res.c2; have c3 := l1.rs.res.c3; have f0 := l1.rs.res.f0; have f1 := l1.rs.res.f1; have f2 := l1.rs.res.f2; have f3 := l1.rs.res.f3))
      have q := l1.rs.res.put4 (.int .i64 0) (.int .i64 0) (.int .i64 0) (.slice none 0 0)
      have d := l1.rs.done (.int .i64 0) (.int .i64 0) (.int .i64 0) (.slice none 0 0)
      exact bodyPost_ret (v := .tuple #[val 0 0 0 none 0 0, .string ⟨#[]⟩, .bool false]) (by simp [results, Try.results31, go_sem, q.c0, q.c1, q.c2, q.c3]) rfl (HF.out _ d.2)
end Go.Proofs.Ytddlpejklpljoaa.O3
