/- Joined texts: plain facts and contracts, as each part says. -/
import Derived.Test.YtddlpejklpljoaaJsF
import Derived.Test.YtddlpejklpljoaaJsK
import Derived.Deep.WholeRow
import Derived.Deep.RegionHeld3
import Derived.RegionTactic

/- The contracts of the tree's pagesApart and of readTree. -/
namespace Go.Proofs.Ytddlpejklpljoaa.TW
open Go.ChangeShapes Go.WideShapes Go.ChangeAt Go.RowKit
open Go.Sort (Holds putRow grow)
set_option linter.unusedVariables false
set_option linter.unusedSimpArgs false
set_option maxRecDepth 10000
variable {B : Nat} {N : Nat → Nd} {F : Nat → Nat} {P : Nat → ByteArray} {w W W' : World} {Z : Nat → List Int}
open J0 (IBuf Own)
open I2 (ints)

/-- slices.Clone of a row in a block of its own, its length alone. -/
theorem cloneBlk (g c : Nat) (zs : List Int) (w : World) (hl : zs.length ≤ 1048576) (h : K0.Blk g (ints zs) w) :
    Calls Try.prog 80 #[.slice (some ⟨g, 0, none⟩) zs.length c] w fun e w' => ∃ g' c', e = .returned (.slice (some ⟨g', 0, none⟩) zs.length c') ∧ zs.length ≤ c' ∧ w.heap.size ≤ g' ∧ K0.Blk g' (ints zs) w' ∧ Below w.heap.size w w' := by
  have key : ∀ v' w', w'.ownsRow w.heap.size 3 1 v' zs.length (ints zs) → v' ≠ .slice none 0 0 → ∃ g' c', v' = .slice (some ⟨g', 0, none⟩) zs.length c' ∧ zs.length ≤ c' ∧ w.heap.size ≤ g' ∧ K0.Blk g' (ints zs) w' := by
    intro v' w' ho hne
    rcases ho.2 with ⟨h1, _⟩ | ⟨g', cap', cur, rfl, hb, hg, hnc, hcm, hcs, ht⟩
    · exact absurd h1 hne
    · refine ⟨g', cap', rfl, hnc, hb, ?_⟩
      have hi : IBuf w.heap.size w' (some ⟨g', 0, none⟩) zs.length cap' zs := ⟨rfl, ho⟩
      rcases hi.own with h0 | ⟨g2, e, _, hk⟩
      · rw [h0]
        exact ⟨fun j hj => by simp at hj, fun j hj => by simp at hj, (Array.getElem?_eq_some_iff.1 hg).1⟩
      · cases e
        exact hk
  refine (Try.slices_Clone_int g 0 zs.length c zs w (Nat.le_refl _) (by omega) (fun j hj => ?_)).mono fun e w' ⟨v', he, ho, hne, hb⟩ => ?_
  · have := h.cell j (by simpa using hj)
    rw [Nat.zero_add, this]
    simp [hj]
  · rw [List.take_length] at ho
    obtain ⟨g', c', rfl, h1, h2, h3⟩ := key v' w' (by simpa using ho) hne
    exact ⟨g', c', he, h1, h2, h3, hb⟩

set_option maxHeartbeats 1000000 in
theorem pagesApart (w : World) (hT : Tb B N F P w) (hZ : Ps N Z w) :
    Calls Try.prog 58 #[.pointer (some ⟨B, 0, none⟩)] w fun e w' => e = .returned (.bool (decide (cat Z 8).Nodup)) ∧ Below w.heap.size w w' := by
  have hlen := cat_len hZ.few 8
  have hp := pages w hT hZ
  obtain ⟨zs, hzs⟩ : ∃ zs, cat Z 8 = zs := ⟨_, rfl⟩
  rw [hzs] at hp hlen ⊢
  have hsl := srt_length zs
  have hcl : Hid (∀ g c W, K0.Blk g (ints (srt zs)) W → Calls Try.prog 80 #[.slice (some ⟨g, 0, none⟩) zs.length c] W fun e w' => ∃ g' c', e = .returned (.slice (some ⟨g', 0, none⟩) zs.length c') ∧ zs.length ≤ c' ∧ W.heap.size ≤ g' ∧ K0.Blk g' (ints (srt zs)) w' ∧ Below W.heap.size W w') := fun g c W h => by
    have := cloneBlk g c (srt zs) W (by omega) h
    rw [hsl] at this
    exact this
  have hcm : Hid (∀ g c W, zs.length ≤ c → K0.Blk g (ints (srt zs)) W → Calls Try.prog 79 #[.slice (some ⟨g, 0, none⟩) zs.length c] W fun e w' => e = .returned (.slice (some ⟨g, 0, none⟩) (Lib.compact (srt zs)).length c) ∧ ∀ b, b ≤ g → b ≤ W.heap.size → Below b W w') := fun g c W hc h => by
    have := Try.slices_Compact_int g 0 c (srt zs) W (holds_of h) (by omega) (by omega)
    rw [hsl] at this
    refine this.mono fun e w' ⟨he, q, hw⟩ => ⟨he, fun b hb hs => ?_⟩
    subst hw
    refine ⟨rfl, rfl, rfl, ?_, fun k hk => ?_⟩
    · rw [Go.Sort.size_putRow]
      exact Nat.le_refl _
    · show (W.heap.modify g _)[k]? = W.heap[k]?
      rw [Array.getElem?_modify, if_neg (by omega)]
  have hfin : (((Lib.compact (srt zs)).length : Int) == (zs.length : Int)) = decide zs.Nodup := by
    have := apart_iff zs
    by_cases h : zs.Nodup
    · rw [decide_eq_true h]
      have := this.2 h
      simp
      omega
    · rw [decide_eq_false h]
      have : ¬ (Lib.compact (srt zs)).length = zs.length := fun e => h (this.1 e)
      simp
      omega
  obtain ⟨L, hL⟩ : ∃ L, (Lib.compact (srt zs)).length = L := ⟨_, rfl⟩
  rw [hL] at hcm hfin
  obtain ⟨r, hr⟩ : ∃ r, decide zs.Nodup = r := ⟨_, rfl⟩
  rw [hr] at hfin ⊢
  clear hT hZ hL hr hzs
  go_enter Try.func58, Try.ntmps58
  go_wp2_with (first
    | (go_at_call 40; refine hp.mono ?_; rintro e w1 ⟨g1, c1, rfl, hc1, hg1, k1, b1⟩)
    | (go_at_call 80; refine (hcl.out _ _ _ k1).mono ?_; rintro e w2 ⟨g2, c2, rfl, hc2, hg2, k2, b2⟩)
    | (go_at_call 79; refine (hcm.out _ _ _ hc2 k2).mono ?_; rintro e w3 ⟨rfl, b3⟩))
  go_ret
  exact ⟨rfl, (b1.trans (b2.mono b1.size)).trans (b3 _ (Nat.le_trans b1.size hg2) (Nat.le_trans b1.size b2.size))⟩
end Go.Proofs.Ytddlpejklpljoaa.TW

/- The contract of readTree. -/
namespace Go.Proofs.Ytddlpejklpljoaa.TW
open Go.ChangeShapes Go.WideShapes Go.ChangeAt Go.RowKit
set_option linter.unusedVariables false
set_option linter.unusedSimpArgs false
set_option maxRecDepth 10000
variable {B : Nat} {N : Nat → Nd} {F : Nat → Nat} {P : Nat → ByteArray} {w W W' : World} {Z : Nat → List Int} {mem : ByteArray}

def zeroN : Nd := ⟨0, 0, 0, none, 0, 0, ⟨#[]⟩, none, 0, 0⟩
def zcells : List Value := nds (fun _ => zeroN) 8 ++ List.replicate 8 (.int .i64 0) ++ List.replicate 8 (.string ⟨#[]⟩)
theorem rep_get {α : Type} (v : α) (n i : Nat) (h : i < n) : (List.replicate n v)[i]? = some v := by rw [List.getElem?_replicate, if_pos h]
theorem zeroTree : (Try.prog.info? 88).map (fun i => (i.zero, i.size)) = some (some (.agg zcells.toArray), 64) := by kernel_rfl
theorem zlen : zcells.length = 64 := by simp [zcells, nds_length]

theorem tb_new (w : World) : Tb w.heap.size (fun _ => zeroN) (fun _ => 0) (fun _ => ⟨#[]⟩) (w.alloc (.cells zcells.toArray 88)) := by
  have hb := K0.blk_new zcells w 88
  have hl := zlen
  refine ⟨fun i hi j hj => ?_, fun i hi => ?_, fun i hi => ?_, fun j hj => hb.free j (by omega), hb.lt⟩
  · have hj' : j < 6 := hj
    rw [hb.cell (i * 6 + j) (by omega)]
    have h1 : (nds (fun _ => zeroN) 8).length = 48 := nds_length _ 8
    have := nds_at (fun _ => zeroN) i j hi hj'
    have e : zcells[i * 6 + j]? = zeroN.vals[j]? := by
      unfold zcells
      rw [List.append_assoc, List.getElem?_append_left (by omega)]
      exact this
    rw [List.getElem?_eq_getElem (by omega), List.getElem?_eq_getElem hj] at e
    exact e
  · rw [hb.cell (48 + i) (by omega)]
    have h1 : (nds (fun _ => zeroN) 8).length = 48 := nds_length _ 8
    have e : zcells[48 + i]? = some (.int .i64 0) := by
      unfold zcells
      rw [List.append_assoc, List.getElem?_append_right (by omega), h1, List.getElem?_append_left (by rw [List.length_replicate]; omega), show 48 + i - 48 = i by omega]
      exact rep_get _ 8 i hi
    rw [List.getElem?_eq_getElem (by omega)] at e
    exact e
  · rw [hb.cell (56 + i) (by omega)]
    have h1 : (nds (fun _ => zeroN) 8).length = 48 := nds_length _ 8
    have e : zcells[56 + i]? = some (.string ⟨#[]⟩) := by
      unfold zcells
      rw [List.getElem?_append_right (by rw [List.length_append, h1, List.length_replicate]; omega), List.length_append, h1, List.length_replicate, show 56 + i - (48 + 8) = i by omega]
      exact rep_get _ 8 i hi
    rw [List.getElem?_eq_getElem (by omega)] at e
    exact e

abbrev putN (W : World) (B i : Nat) (d : Nd) : World := ((((((W.setCell ⟨B, i * 6, none⟩ (.int .i64 d.k)).setCell ⟨B, i * 6 + 1, none⟩ (.int .i64 d.o)).setCell ⟨B, i * 6 + 2, none⟩ (.int .i64 d.s)).setCell ⟨B, i * 6 + 3, none⟩ (.slice d.a d.n d.c)).setCell ⟨B, i * 6 + 4, none⟩ (.string d.x)).setCell ⟨B, i * 6 + 5, none⟩ (.slice d.ae d.ne d.ce))

def upN (N : Nat → Nd) (i : Nat) (d : Nd) : Nat → Nd := fun y => if y = i then d else N y

theorem putN_cell (h : ∀ j, j < 64 → ∃ v, W.cell? ⟨B, j, none⟩ = some v) {i : Nat} (hi : i < 8) (d : Nd) (j : Nat) (hj : j < 64) :
    (putN W B i d).cell? ⟨B, j, none⟩ = if i * 6 ≤ j ∧ j < i * 6 + 6 then d.vals[j - i * 6]? else W.cell? ⟨B, j, none⟩ := by
  have hs : ∀ (W : World) (k : Nat) (v : Value) (m : Nat), (∃ u, W.cell? ⟨B, m, none⟩ = some u) → (W.setCell ⟨B, k, none⟩ v).cell? ⟨B, m, none⟩ = if k = m then some v else W.cell? ⟨B, m, none⟩ := by
    intro W k v m ⟨u, hu⟩
    by_cases e : k = m
    · subst e
      rw [if_pos rfl, World.cell?_setCell_same _ _ _ hu]
    · rw [if_neg e, cell_far e]
  have hx : ∀ (W : World) (k : Nat) (v : Value) (m : Nat), (∃ u, W.cell? ⟨B, m, none⟩ = some u) → ∃ u, (W.setCell ⟨B, k, none⟩ v).cell? ⟨B, m, none⟩ = some u := by
    intro W k v m hu
    rw [hs W k v m hu]
    split
    · exact ⟨_, rfl⟩
    · exact hu
  have h0 := h j hj
  have h1 := hx W (i * 6) (.int .i64 d.k) j h0
  have h2 := hx _ (i * 6 + 1) (.int .i64 d.o) j h1
  have h3 := hx _ (i * 6 + 2) (.int .i64 d.s) j h2
  have h4 := hx _ (i * 6 + 3) (.slice d.a d.n d.c) j h3
  have h5 := hx _ (i * 6 + 4) (.string d.x) j h4
  unfold putN
  rw [hs _ _ _ _ h5, hs _ _ _ _ h4, hs _ _ _ _ h3, hs _ _ _ _ h2, hs _ _ _ _ h1, hs _ _ _ _ h0]
  by_cases hc : i * 6 ≤ j ∧ j < i * 6 + 6
  · rw [if_pos hc]
    obtain ⟨m, rfl⟩ : ∃ m, j = i * 6 + m := ⟨j - i * 6, by omega⟩
    have hm : m < 6 := by omega
    rw [show i * 6 + m - i * 6 = m by omega]
    rcases m with _ | _ | _ | _ | _ | _ | m
    · simp [Nd.vals]
    · simp [Nd.vals]
    · simp [Nd.vals]
    · simp [Nd.vals]
    · simp [Nd.vals]
    · simp [Nd.vals]
    · omega
  · rw [if_neg hc, if_neg (by omega), if_neg (by omega), if_neg (by omega), if_neg (by omega), if_neg (by omega), if_neg (by omega)]

theorem Tb.any (h : Tb B N F P W) (j : Nat) (hj : j < 64) : ∃ v, W.cell? ⟨B, j, none⟩ = some v := by
  by_cases h1 : j < 48
  · have e : j = j / 6 * 6 + j % 6 := by omega
    rw [e]
    exact ⟨_, h.node (j / 6) (by omega) (j % 6) (by rw [Nd.vals_length]; omega)⟩
  · by_cases h2 : j < 56
    · have := h.fnd (j - 48) (by omega)
      rw [show 48 + (j - 48) = j by omega] at this
      exact ⟨_, this⟩
    · have := h.pth (j - 56) (by omega)
      rw [show 56 + (j - 56) = j by omega] at this
      exact ⟨_, this⟩

theorem Tb.putN (h : Tb B N F P W) {i : Nat} (hi : i < 8) (d : Nd) : Tb B (upN N i d) F P (TW.putN W B i d) := by
  have hc := putN_cell h.any hi d
  refine ⟨fun k hk j hj => ?_, fun k hk => ?_, fun k hk => ?_, fun j hj => ?_, ?_⟩
  · have hj' : j < 6 := hj
    rw [hc (k * 6 + j) (by omega)]
    by_cases e : k = i
    · subst e
      rw [if_pos (by omega), show k * 6 + j - k * 6 = j by omega]
      simp only [upN, if_pos rfl] at hj ⊢
      exact List.getElem?_eq_getElem hj
    · rw [if_neg (by omega)]
      simp only [upN, if_neg e] at hj ⊢
      exact h.node k hk j hj
  · rw [hc (48 + k) (by omega), if_neg (by omega)]
    exact h.fnd k hk
  · rw [hc (56 + k) (by omega), if_neg (by omega)]
    exact h.pth k hk
  · rw [World.frozen?_setCell, World.frozen?_setCell, World.frozen?_setCell, World.frozen?_setCell, World.frozen?_setCell, World.frozen?_setCell]
    exact h.free j hj
  · have := h.lt
    simpa [World.setCell] using this
end Go.Proofs.Ytddlpejklpljoaa.TW

/- What a sound memory is, plain; what readTree tells of it. -/
namespace Go.Proofs.Ytddlpejklpljoaa.TW
open Go.ChangeShapes Go.WideShapes Go.ChangeAt Go.RowKit
set_option linter.unusedVariables false
set_option linter.unusedSimpArgs false
set_option maxRecDepth 10000
variable {B : Nat} {N : Nat → Nd} {F : Nat → Nat} {P : Nat → ByteArray} {w W W' : World} {mem : ByteArray}

def tK (mem : ByteArray) (i : Nat) : Int := G0.gK (O0.recd mem (i : Int))
def tZ (mem : ByteArray) (i : Nat) : List Int := G0.gZ (O0.recd mem (i : Int))
def tE (mem : ByteArray) (i : Nat) : List T0.Ent := D1.nodeE mem (i : Int)
def hd : ByteArray := ⟨#[84, 78, 82, 49]⟩ ++ B4.zeros 28
theorem hd_laid : B5.laid (B4.zeros 32) 0 ⟨#[84, 78, 82, 49]⟩ = hd := by decide +kernel
def headOk (mem : ByteArray) : Bool := (B2.part mem 0 32).toList == hd.toList
def nodesOk (mem : ByteArray) : Bool := N0.to (fun i => D1.nodeOk mem (i : Int)) 8
/-- Whether a memory is one file system. -/
def sound (mem : ByteArray) : Bool := decide (mem.size = 768) && (headOk mem && (nodesOk mem && ((tK mem 0 == 2) && (decide (cat (tZ mem) 8).Nodup && TR.treeOk (tE mem) (tK mem)))))

theorem recd_far (mem : ByteArray) (i : Nat) (h : 8 ≤ i) : O0.recd mem (i : Int) = ⟨#[]⟩ := by
  unfold O0.recd L1.recAt B2.part
  have h1 : B1.inB (i : Int) 0 7 = false := by simp [B1.inB]; omega
  have h2 : B2.lies mem.size (-1) 16 = false := by simp [B2.lies]
  have h3 : (if B1.inB (i : Int) 0 7 = true then 32 + (i : Int) * 16 else -1) = -1 := by rw [h1]; rfl
  rw [h3, h2]
  rfl
theorem isI_empty : G0.isI ⟨#[]⟩ = false := by decide +kernel
theorem tK_far (mem : ByteArray) (i : Nat) (h : 8 ≤ i) : tK mem i = 0 := by
  unfold tK
  rw [recd_far mem i h]
  exact (G0.g_no isI_empty).1
theorem tZ_far (mem : ByteArray) (i : Nat) (h : 8 ≤ i) : tZ mem i = [] := by
  unfold tZ
  rw [recd_far mem i h]
  exact (G0.g_no isI_empty).2.2.2

theorem nodeE_dir (mem : ByteArray) (i : Int) (h : D1.nodeE mem i ≠ []) : G0.gK (O0.recd mem i) = 2 ∧ V0.isD (D1.data mem i) = true ∧ D1.nodeE mem i = V0.ents (D1.data mem i) ((D1.data mem i).size / 16) := by
  unfold D1.nodeE at h ⊢
  by_cases h2 : G0.gK (O0.recd mem i) = 2
  · rw [if_pos h2] at h ⊢
    unfold V0.dE at h ⊢
    cases hD : V0.isD (D1.data mem i) with
    | false => rw [hD] at h; exact absurd rfl h
    | true =>
      refine ⟨h2, rfl, ?_⟩
      rw [if_pos rfl, (V0.of_isD hD).2.2.1]
  · rw [if_neg h2] at h
    exact absurd rfl h

theorem ent_ok (mem : ByteArray) (i : Int) (e : T0.Ent) (h : e ∈ D1.nodeE mem i) : (0 < e.1 ∧ e.1 < 8) ∧ e.2.size ≤ 14 := by
  obtain ⟨_, hD, hE⟩ := nodeE_dir mem i (List.ne_nil_of_mem h)
  have hd := (V0.of_isD hD).2.2.2.2
  rw [hE] at h
  simp only [T0.dirOk, Bool.and_eq_true, decide_eq_true_eq] at hd
  obtain ⟨k, hk, he⟩ := List.mem_iff_getElem.1 h
  have h1 := (T0.okAt_entry (T0.okUpto_at hd.2 hk)).1
  rw [T0.ent_get _ _ hk, he] at h1
  obtain ⟨h2, h3⟩ := E0.entryOk_true h1
  refine ⟨by omega, ?_⟩
  simp only [E0.nameOk, Bool.and_eq_true] at h2
  have := B1.inB_true h2.2.1
  omega
theorem few_ok (mem : ByteArray) (i : Int) : (D1.nodeE mem i).length ≤ 12 := by
  by_cases h : D1.nodeE mem i = []
  · rw [h]
    decide
  · obtain ⟨_, hD, hE⟩ := nodeE_dir mem i h
    have := (V0.of_isD hD).1
    rw [hE, V0.ents_length]
    omega
theorem sane_ok (mem : ByteArray) : TR.Sane (tE mem) (tK mem) := ⟨fun d h => (nodeE_dir mem d h).1, fun d e h => (ent_ok mem d e h).1⟩
theorem pg_few (mem : ByteArray) (i : Nat) : (tZ mem i).length ≤ 12 := by
  unfold tZ
  cases h : G0.isI (O0.recd mem (i : Int)) with
  | true => exact Nat.le_trans (O0.got h).2.1 (by decide)
  | false => rw [(G0.g_no h).2.2.2]; decide

/-- A node that was read. -/
structure NdOk (mem : ByteArray) (B : Nat) (i : Nat) (d : Nd) (W : World) : Prop where
  k : d.k = tK mem i
  o : d.o = G0.gO (O0.recd mem (i : Int))
  n : d.n = (tZ mem i).length
  c : d.n ≤ d.c
  row : J0.Own (B + 1) W d.a (tZ mem i)
  ne : d.ne = (tE mem i).length
  ce : d.ne ≤ d.ce
  ents : V1.OwnE (B + 1) W d.ae (tE mem i)
  x : d.x = D1.nodeD mem (i : Int)
theorem NdOk.below {i : Nat} {d : Nd} (h : NdOk mem B i d W) (hb : Below W.heap.size W W') : NdOk mem B i d W' := ⟨h.k, h.o, h.n, h.c, h.row.below hb, h.ne, h.ce, h.ents.below hb, h.x⟩
theorem NdOk.set {i : Nat} {d : Nd} (h : NdOk mem B i d W) (j : Nat) (v : Value) : NdOk mem B i d (W.setCell ⟨B, j, none⟩ v) := ⟨h.k, h.o, h.n, h.c, h.row.set (Nat.lt_succ_self B) j v, h.ne, h.ce, N5.ownE_set h.ents (Nat.lt_succ_self B) j v, h.x⟩
theorem NdOk.putN {i : Nat} {d : Nd} (h : NdOk mem B i d W) (j : Nat) (u : Nd) : NdOk mem B i d (TW.putN W B j u) := (((((h.set _ _).set _ _).set _ _).set _ _).set _ _).set _ _
theorem own_gr {a : Option Addr} {zs : List Int} (h : J0.Own (B + 1) w a zs) (hg : w.grownBy W (some B)) : J0.Own (B + 1) W a zs :=
  h.imp id fun ⟨g, e, hb, hk⟩ => ⟨g, e, hb, blk_gr hk hg (by omega)⟩
theorem ownE_gr {a : Option Addr} {es : List T0.Ent} (h : V1.OwnE (B + 1) w a es) (hg : w.grownBy W (some B)) : V1.OwnE (B + 1) W a es := by
  refine h.imp id fun ⟨g, e, hb, hk⟩ => ⟨g, e, hb, ?_⟩
  have hc : ∀ x, W.cell? ⟨g, x, none⟩ = w.cell? ⟨g, x, none⟩ := fun x => World.cell?_of_block (a := ⟨g, x, none⟩) (hg.block g hk.lt (by simp; omega))
  have hf : ∀ x, W.frozen? ⟨g, x, none⟩ = w.frozen? ⟨g, x, none⟩ := fun x => World.frozen?_of_block (a := ⟨g, x, none⟩) (hg.block g hk.lt (by simp; omega))
  exact ⟨fun j hj => by rw [hc, hc]; exact hk.done j hj, fun j hj => by rw [hc]; exact hk.there j hj, fun j hj => by rw [hf]; exact hk.free j hj, Nat.lt_of_lt_of_le hk.lt hg.size⟩
theorem NdOk.gr {i : Nat} {d : Nd} (h : NdOk mem B i d w) (hg : w.grownBy W (some B)) : NdOk mem B i d W := ⟨h.k, h.o, h.n, h.c, own_gr h.row hg, h.ne, h.ce, ownE_gr h.ents hg, h.x⟩

/-- The nodes so far. -/
structure Rd (mem : ByteArray) (w : World) (k : Nat) (N : Nat → Nd) (W : World) : Prop where
  tb : Tb w.heap.size N (fun _ => 0) (fun _ => ⟨#[]⟩) W
  nd : ∀ i, i < k → NdOk mem w.heap.size i (N i) W
  far : ∀ i, k ≤ i → N i = zeroN
  bel : Below w.heap.size w W
theorem Rd.below {k : Nat} (h : Rd mem w k N W) (hb : Below W.heap.size W W') : Rd mem w k N W' := ⟨h.tb.below hb h.tb.lt, fun i hi => (h.nd i hi).below hb, h.far, h.bel.trans (hb.mono h.bel.size)⟩
theorem Rd.drew {k : Nat} (h : Rd mem w k N W) : Rd mem w k N W.drew := ⟨h.tb.drew, fun i hi => (h.nd i hi).below ((Below.refl _ _).drew), h.far, h.bel.drew⟩
theorem rd_new (mem : ByteArray) (w : World) : Rd mem w 0 (fun _ => zeroN) (w.alloc (.cells zcells.toArray 88)) := ⟨tb_new w, fun i hi => by omega, fun i _ => rfl, K0.below_new w _⟩
theorem Rd.step {k : Nat} {d : Nd} (h : Rd mem w k N W) (hk : k < 8) (hd : NdOk mem w.heap.size k d W) : Rd mem w (k + 1) (upN N k d) (TW.putN W w.heap.size k d) := by
  refine ⟨h.tb.putN hk d, fun i hi => ?_, fun i hi => ?_, ?_⟩
  · by_cases e : i = k
    · subst e
      simp only [upN, if_pos rfl]
      exact hd.putN i d
    · simp only [upN, if_neg e]
      exact (h.nd i (by omega)).putN k d
  · simp only [upN, if_neg (show ¬ i = k by omega)]
    exact h.far i (by omega)
  · exact (((((h.bel.setCell (p := ⟨w.heap.size, k * 6, none⟩) (Nat.le_refl _) _).setCell (p := ⟨w.heap.size, k * 6 + 1, none⟩) (Nat.le_refl _) _).setCell (p := ⟨w.heap.size, k * 6 + 2, none⟩) (Nat.le_refl _) _).setCell (p := ⟨w.heap.size, k * 6 + 3, none⟩) (Nat.le_refl _) _).setCell (p := ⟨w.heap.size, k * 6 + 4, none⟩) (Nat.le_refl _) _).setCell (p := ⟨w.heap.size, k * 6 + 5, none⟩) (Nat.le_refl _) _

theorem Rd.kinds (h : Rd mem w 8 N W) : (fun i => (N i).k) = tK mem := by
  funext i
  by_cases hi : i < 8
  · exact (h.nd i hi).k
  · rw [h.far i (by omega), tK_far mem i (by omega)]
    rfl
theorem Rd.ns (h : Rd mem w 8 N W) : Ns w.heap.size N (tE mem) W :=
  ⟨fun i hi => (h.nd i hi).ne, fun i hi => (h.nd i hi).ents, by rw [h.kinds]; exact sane_ok mem, fun i => few_ok mem i, fun i e he => (ent_ok mem i e he).2⟩
theorem Rd.ps (h : Rd mem w 8 N W) : Ps N (tZ mem) W := ⟨fun i hi => (h.nd i hi).n, fun i hi => (h.nd i hi).row.row, pg_few mem⟩

/-- The tree that was read. -/
structure Good (mem : ByteArray) (B : Nat) (N : Nat → Nd) (F : Nat → Nat) (P : Nat → ByteArray) (W : World) : Prop where
  tb : Tb B N F P W
  nd : ∀ i, i < 8 → NdOk mem B i (N i) W
  inv : TR.Inv (tE mem) (tK mem) [] F P
theorem Good.below (h : Good mem B N F P W) (hb : Below W.heap.size W W') : Good mem B N F P W' := ⟨h.tb.below hb h.tb.lt, fun i hi => (h.nd i hi).below hb, h.inv⟩
theorem Good.ps (h : Good mem B N F P W) : Ps N (tZ mem) W := ⟨fun i hi => (h.nd i hi).n, fun i hi => (h.nd i hi).row.row, pg_few mem⟩

/-- What readTree answers. -/
def Ans (mem : ByteArray) (w : World) (e : Ending) (w' : World) : Prop :=
  ∃ p, e = .returned (.tuple #[.pointer p, .bool (sound mem)]) ∧ Below w.heap.size w w' ∧ (sound mem = true → ∃ B N F P, p = some ⟨B, 0, none⟩ ∧ w.heap.size ≤ B ∧ Good mem B N F P w')
theorem ans_no {mem : ByteArray} {w w' : World} {p : Option Addr} (h : sound mem = false) (hb : Below w.heap.size w w') : Ans mem w (.returned (.tuple #[.pointer p, .bool false])) w' :=
  ⟨p, by rw [h], hb, fun h' => by rw [h] at h'; cases h'⟩
theorem ans_yes {mem : ByteArray} {w w' : World} (h : sound mem = true) (hb : Below w.heap.size w w') (hB : w.heap.size ≤ B) (hg : Good mem B N F P w') : Ans mem w (.returned (.tuple #[.pointer (some ⟨B, 0, none⟩), .bool true])) w' :=
  ⟨_, by rw [h], hb, fun _ => ⟨B, N, F, P, rfl, hB, hg⟩⟩
end Go.Proofs.Ytddlpejklpljoaa.TW

/- The contract of impl.Load, as the given laws call it. -/
namespace Go.Proofs.Ytddlpejklpljoaa.O2
open Go.ChangeShapes Go.WideShapes Go.ChangeAt Go.RowKit
set_option linter.unusedVariables false
set_option linter.unusedSimpArgs false
set_option maxRecDepth 10000

open I0 (val vals)

/-- What Load answers. -/
def Ans (mem : ByteArray) (i : Int) (w : World) (e : Ending) (w' : World) : Prop :=
  ∃ a c, e = .returned (.tuple #[val (O0.lK mem i) (O0.lO mem i) (O0.lS mem i) a (O0.lZ mem i).length c, .string (O0.lD mem i), .bool (O0.isL mem i)]) ∧ J0.Own w.heap.size w' a (O0.lZ mem i) ∧ (O0.lZ mem i).length ≤ c ∧ Below w.heap.size w w'

theorem ans_no {mem : ByteArray} {i : Int} {w w' : World} (h : O0.isL mem i = false) (hb : Below w.heap.size w w') : Ans mem i w (.returned (.tuple #[val 0 0 0 none 0 0, .string ⟨#[]⟩, .bool false])) w' := by
  obtain ⟨h1, h2, h3, h4, h5⟩ := O0.l_no h
  exact ⟨none, 0, by rw [h1, h2, h3, h4, h5, h]; rfl, by rw [h4]; exact Or.inl rfl, by rw [h4]; exact Nat.le_refl _, hb⟩

theorem ans_yes {mem : ByteArray} {i : Int} {w w' : World} {a : Option Addr} {c : Nat} (h : O0.isL mem i = true) (ho : J0.Own w.heap.size w' a (G0.gZ (O0.recd mem i))) (hc : (G0.gZ (O0.recd mem i)).length ≤ c) (hb : Below w.heap.size w w') :
    Ans mem i w (.returned (.tuple #[val (G0.gK (O0.recd mem i)) (G0.gO (O0.recd mem i)) (G0.gS (O0.recd mem i)) a (G0.gZ (O0.recd mem i)).length c, .string ((O0.joined mem (G0.gZ (O0.recd mem i)) (G0.gZ (O0.recd mem i)).length).extract 0 (G0.gS (O0.recd mem i)).toNat), .bool true])) w' := by
  obtain ⟨h1, h2, h3, h4, h5⟩ := O0.l_yes h
  exact ⟨a, c, by rw [h1, h2, h3, h4, h5, h], by rw [h4]; exact ho, by rw [h4]; exact hc, hb⟩

/-- The record, read, where it is none's. -/
theorem read_yes {s : ByteArray} {W : World} (hs : s.size ≤ 281474976710656) (h : G0.isI s = true) {v : Value → Value} (hv : ∀ x, I1.rec (B1.byteAt s 0) x = v x) :
    Calls Try.prog 92 #[.string s] W fun e w' => ∃ a c, e = .returned (.tuple #[v (val (G0.gK s) (G0.gO s) (G0.gS s) a (G0.gZ s).length c), .bool true]) ∧ J0.Own W.heap.size w' a (G0.gZ s) ∧ (G0.gZ s).length ≤ c ∧ Below W.heap.size W w' := by
  obtain ⟨e1, e2, e3, e4⟩ := G0.g_yes h
  rw [e1, e2, e3, e4]
  exact G3.read_yes hs h hv

/-- The answer's block and the inode's own. -/
structure Ls (w : World) (B : Nat) (k o s : Int) (a : Option Addr) (zs : List Int) (c : Nat) (W : World) : Prop where
  rs : G3.Rs w a zs W
  nb : K0.Blk B (vals k o s a zs.length c) W
  ne : w.heap.size < B

variable {w W W' : World} {B : Nat} {k o s : Int} {a : Option Addr} {zs : List Int} {c : Nat}

theorem Ls.below (h : Ls w B k o s a zs c W) (hb : Below W.heap.size W W') : Ls w B k o s a zs c W' := ⟨h.rs.below hb, h.nb.below hb, h.ne⟩
theorem Ls.drew (h : Ls w B k o s a zs c W) : Ls w B k o s a zs c W.drew := ⟨⟨h.rs.res.drew, h.rs.own.drew, h.rs.bel.drew⟩, h.nb.drew, h.ne⟩
theorem ls_new (h : G3.Rs w a zs W) : Ls w W.heap.size k o s a zs c (W.alloc (.cells #[.int .i64 k, .int .i64 o, .int .i64 s, .slice a zs.length c] 45)) :=
  ⟨h.below (K0.below_new _ _), K0.blk_new (vals k o s a zs.length c) W 45, h.res.lt⟩

end Go.Proofs.Ytddlpejklpljoaa.O2

/- The contracts of impl.Load and spec.Load, as the given laws call them. -/
namespace Go.Proofs.Ytddlpejklpljoaa.O3
open Go.ChangeShapes Go.WideShapes Go.ChangeAt Go.RowKit
set_option linter.unusedVariables false
set_option linter.unusedSimpArgs false
set_option maxRecDepth 10000

open I0 (val vals)
open O2 (Ans ans_no ans_yes)

open O2 (Ls ls_new)

set_option maxHeartbeats 4000000 in
theorem spec_Load (mem : ByteArray) (i : Int) (w : World) (hms : mem.size ≤ 281474976710656) : Calls Try.prog 31 #[.string mem, .int .i64 i] w (Ans mem i w) := by
  have hrs := O0.recd_size mem i hms
  have hG : Hid (∀ W, Calls Try.prog 50 #[.string (O0.recd mem i)] W (G3.Ans (O0.recd mem i) W)) := fun W => G4.spec_GetInode _ _ hrs
  have hRc : Hid (∀ W, Calls Try.prog 51 #[.string mem, .int .i64 i] W fun e w' => e = .returned (.string (O0.recd mem i)) ∧ w' = W) := fun W => O1.l03Rec mem i W hms
  by_cases hL : O0.isL mem i = true
  · have hl := hL
    simp only [O0.isL, Bool.and_eq_true, decide_eq_true_eq, Bool.not_eq_true'] at hl
    obtain ⟨hm, hI, hk⟩ := hl
    have hk' : ¬ B1.byteAt (O0.recd mem i) 0 = 0 := of_decide_eq_false hk
    have g8 : ((mem.size : Int) != 768) = false := by simp; omega
    have hg := O0.got hI
    have hK0 : (G0.gK (O0.recd mem i) == 0) = false := by
      rw [(G0.g_yes hI).1]
      simpa using hk'
    have HF : Hid (∀ a c w', J0.Own w.heap.size w' a (G0.gZ (O0.recd mem i)) → (G0.gZ (O0.recd mem i)).length ≤ c → Below w.heap.size w w' → Ans mem i w (.returned (.tuple #[val (G0.gK (O0.recd mem i)) (G0.gO (O0.recd mem i)) (G0.gS (O0.recd mem i)) a (G0.gZ (O0.recd mem i)).length c, .string ((O0.joined mem (G0.gZ (O0.recd mem i)) (G0.gZ (O0.recd mem i)).length).extract 0 (G0.gS (O0.recd mem i)).toNat), .bool true])) w') := fun a c w' => ans_yes hL
    have hA : Hid (∀ W e w', G3.Ans (O0.recd mem i) W e w' → ∃ a c, e = .returned (.tuple #[val (G0.gK (O0.recd mem i)) (G0.gO (O0.recd mem i)) (G0.gS (O0.recd mem i)) a (G0.gZ (O0.recd mem i)).length c, .bool true]) ∧ J0.Own W.heap.size w' a (G0.gZ (O0.recd mem i)) ∧ (G0.gZ (O0.recd mem i)).length ≤ c ∧ Below W.heap.size W w') := fun W e w' ⟨a, c, he, ho, hc, hb⟩ => ⟨a, c, by rw [he, hI], ho, hc, hb⟩
    clear hk hk' hL hI hrs
    obtain ⟨R, hR⟩ : ∃ R, O0.recd mem i = R := ⟨_, rfl⟩
    rw [hR] at hg HF hA hG hRc hK0
    obtain ⟨K, hK⟩ : ∃ K, G0.gK R = K := ⟨_, rfl⟩
    obtain ⟨O, hO⟩ : ∃ O, G0.gO R = O := ⟨_, rfl⟩
    obtain ⟨S, hS⟩ : ∃ S, G0.gS R = S := ⟨_, rfl⟩
    obtain ⟨Z, hZ⟩ : ∃ Z, G0.gZ R = Z := ⟨_, rfl⟩
    rw [hK, hO, hS, hZ] at HF hA
    rw [hK, hS, hZ] at hg
    rw [hK] at hK0
    obtain ⟨⟨s0, s1⟩, zl, s2, hp, -⟩ := hg
    clear hK hO hS hZ hR
    go_enter Try.func31, Try.ntmps31
    go_wp2_with (first
      | (go_at_call 51; refine (hRc.out _).mono ?_; rintro e w' ⟨rfl, rfl⟩)
      | (go_at_call 50; refine (hG.out _).mono ?_; intro e w1 hans; obtain ⟨a, c, rfl, ho, hc, b1⟩ := hA.out _ _ _ hans; clear hans; have r1 : G3.Rs w a Z w1 := G3.rs_new b1 ho; have l1 := ls_new (k := K) (o := O) (s := S) (c := c) r1))
    obtain ⟨W1, hW1⟩ : ∃ W1, w1.alloc (.cells #[.int .i64 K, .int .i64 O, .int .i64 S, .slice a Z.length c] 45) = W1 := ⟨_, rfl⟩
    rw [hW1] at l1 ⊢
    have x0 := l1.nb.c0
    have x1 := l1.nb.c1
    have x2 := l1.nb.c2
    have x3 := l1.nb.c3
    clear hW1 b1 ho r1
    go_loop [9, 10] (fun t j => ∃ k : Nat, k ≤ Z.length ∧ j = .int .i64 k ∧ t = .string (O0.joined mem Z k)) (fun _ j => Z.length - (intOf j).toNat)
    case atStart => exact ⟨0, Nat.zero_le _, rfl, rfl⟩
    case round =>
      obtain ⟨k, hk, rfl, rfl⟩ := hrel
      have hjs := O0.joined_size hm hp k hk
      by_cases hlt : k < Z.length
      · obtain ⟨b, off, rfl, hb, hcell⟩ := l1.rs.own.row.get hlt
        have y1 := hcell k hlt
        have hz := R0.pages_bounds hp hlt
        have hu : O0.joined mem Z (k + 1) = O0.joined mem Z k ++ B2.part mem (Z.getD k 0 * 32) 32 := rfl
        obtain ⟨z, ez⟩ : ∃ z, Z.getD k 0 = z := ⟨_, rfl⟩
        rw [ez] at y1 hz hu
        have hps := O0.page_size hm hz.1 hz.2
        have e1 : (0 : Int) ≤ (k : Int) := by omega
        have e2 : (k : Int) < (Z.length : Int) := by omega
        have zz : 32 * k + 32 ≤ 9223372036854775807 := by omega
        have hpg : Hid (∀ W, Calls Try.prog 52 #[.string mem, .int .i64 z] W fun e w' => e = .returned (.string (B2.part mem (z * 32) 32)) ∧ W = w') := fun W => (O1.l03Page mem z W hms hz.1 hz.2).mono fun _ _ h => ⟨h.1, h.2.symm⟩
        have HU : Hid (O0.joined mem Z (k + 1) = O0.joined mem Z k ++ B2.part mem (z * 32) 32) := hu
        clear hu ez hcell hz
        go_wp2_with (go_at_call 52; refine (hpg.out _).mono ?_; rintro e w' ⟨rfl, rfl⟩)
        go_round
        case rel => exact ⟨k + 1, by omega, by go_num, by rw [HU.out]⟩
        case measure => simp [intOf]; omega
      · obtain rfl : k = Z.length := by omega
        have i1 : S ≤ 32 * (Z.length : Int) := s2
        have c0 := l1.rs.res.c0
        have c1 := l1.rs.res.c1
        have c2 := l1.rs.res.c2
        have c3 := l1.rs.res.c3
        have f0 := l1.rs.res.f0
        have f1 := l1.rs.res.f1
        have f2 := l1.rs.res.f2
        have f3 := l1.rs.res.f3
        have i2 : S ≤ ((32 * Z.length : Nat) : Int) := by omega
        have hnb := (((l1.nb.setOther (B' := w.heap.size) (by have := l1.ne; omega) 0 (.int .i64 K)).setOther (B' := w.heap.size) (by have := l1.ne; omega) 1 (.int .i64 O)).setOther (B' := w.heap.size) (by have := l1.ne; omega) 2 (.int .i64 S)).setOther (B' := w.heap.size) (by have := l1.ne; omega) 3 (.slice a Z.length c)
        have y2 := hnb.c2
        clear hnb
        go_wp2
        go_region
        all_goals
          have q := l1.rs.res.put4 (.int .i64 K) (.int .i64 O) (.int .i64 S) (.slice a Z.length c)
          have d := l1.rs.done (.int .i64 K) (.int .i64 O) (.int .i64 S) (.slice a Z.length c)
          go_wp2
          refine bodyPost_ret (v := .tuple #[val K O S a Z.length c, .string ((O0.joined mem Z Z.length).extract 0 S.toNat), .bool true]) (by simp [results, Try.results31, go_sem, q.c0, q.c1, q.c2, q.c3]) rfl (HF.out _ _ _ ?_ hc ?_)
          · exact d.1.drew
          · exact d.2.drew
  · have hL' : O0.isL mem i = false := by simpa using hL
    have HF : Hid (∀ w', Below w.heap.size w w' → Ans mem i w (.returned (.tuple #[val 0 0 0 none 0 0, .string ⟨#[]⟩, .bool false])) w') := fun w' => ans_no hL'
    have hA : Hid (∀ W e w', G3.Ans (O0.recd mem i) W e w' → ∃ a c, e = .returned (.tuple #[val (G0.gK (O0.recd mem i)) (G0.gO (O0.recd mem i)) (G0.gS (O0.recd mem i)) a (G0.gZ (O0.recd mem i)).length c, .bool (G0.isI (O0.recd mem i))]) ∧ J0.Own W.heap.size w' a (G0.gZ (O0.recd mem i)) ∧ (G0.gZ (O0.recd mem i)).length ≤ c ∧ Below W.heap.size W w') := fun W e w' h => h
    have hcase : ((mem.size : Int) != 768) = true ∨ (((mem.size : Int) != 768) = false ∧ G0.isI (O0.recd mem i) = false) ∨ (((mem.size : Int) != 768) = false ∧ G0.isI (O0.recd mem i) = true ∧ (G0.gK (O0.recd mem i) == 0) = true) := by
      by_cases hm : mem.size = 768
      · right
        have g8 : ((mem.size : Int) != 768) = false := by simp; omega
        cases hI : G0.isI (O0.recd mem i) with
        | false => exact Or.inl ⟨g8, rfl⟩
        | true =>
          refine Or.inr ⟨g8, rfl, ?_⟩
          rw [(G0.g_yes hI).1]
          by_cases h0 : B1.byteAt (O0.recd mem i) 0 = 0
          · simpa using h0
          · rw [O0.isL_of hm hI h0] at hL'
            cases hL'
      · left
        simp
        omega
    clear hL hL' hrs
    obtain ⟨R, hR⟩ : ∃ R, O0.recd mem i = R := ⟨_, rfl⟩
    rw [hR] at hA hG hRc hcase
    obtain ⟨K, hK⟩ : ∃ K, G0.gK R = K := ⟨_, rfl⟩
    obtain ⟨O, hO⟩ : ∃ O, G0.gO R = O := ⟨_, rfl⟩
    obtain ⟨S, hS⟩ : ∃ S, G0.gS R = S := ⟨_, rfl⟩
    obtain ⟨Z, hZ⟩ : ∃ Z, G0.gZ R = Z := ⟨_, rfl⟩
    rw [hK, hO, hS, hZ] at hA
    rw [hK] at hcase
    clear hK hO hS hZ hR
    rcases hcase with g8 | ⟨g8, gI⟩ | ⟨g8, gI, gK⟩
    all_goals
      go_enter Try.func31, Try.ntmps31
      go_wp2_with (first
        | (go_at_call 51; refine (hRc.out _).mono ?_; rintro e w' ⟨rfl, rfl⟩)
        | (go_at_call 50; refine (hG.out _).mono ?_; intro e w1 hans; obtain ⟨a, c, rfl, ho, hc, b1⟩ := hA.out _ _ _ hans; clear hans; have r1 : G3.Rs w a Z w1 := G3.rs_new b1 ho; have l1 := ls_new (k := K) (o := O) (s := S) (c := c) r1; have x0 := l1.nb.c0; have c0 := l1.rs.res.c0; have c1 := l1.rs.res.c1; have c2 := l1.rs.res.c2; have c3 := l1.rs.res.c3; have f0 := l1.rs.res.f0; have f1 := l1.rs.res.f1; have f2 := l1.rs.res.f2; have f3 := l1.rs.res.f3))
      have q := l1.rs.res.put4 (.int .i64 0) (.int .i64 0) (.int .i64 0) (.slice none 0 0)
      have d := l1.rs.done (.int .i64 0) (.int .i64 0) (.int .i64 0) (.slice none 0 0)
      exact bodyPost_ret (v := .tuple #[val 0 0 0 none 0 0, .string ⟨#[]⟩, .bool false]) (by simp [results, Try.results31, go_sem, q.c0, q.c1, q.c2, q.c3]) rfl (HF.out _ d.2)
end Go.Proofs.Ytddlpejklpljoaa.O3

/- The specification's tree: plain facts, rows that grow by one, l04Root and l04Owned. -/
namespace Go.Proofs.Ytddlpejklpljoaa.TS
open Go.ChangeShapes Go.WideShapes Go.ChangeAt Go.RowKit
set_option linter.unusedVariables false
set_option linter.unusedSimpArgs false
set_option maxRecDepth 10000
variable {w W W' : World} {mem : ByteArray}
open J0 (IBuf Own)
open I2 (ints)
open TW (tK tZ tE cat)

/-- 'list = append(list, x)', an element of one cell, and where the new list lies. -/
theorem append_one {ops : Array Oper} {rest : List Oper} {o : Oper} {A : Act} {Q : Exit → Act → World → Prop} {base g n cap : Nat} {xs : List Value} (T e : TypeId) (z : Value) (bytes : Nat) (hu : Try.prog.underlying T = some (.slice e)) (hinfo : (Try.prog.info? e).map (fun i => (i.zero, i.size, i.bytes)) = some (some z, 1, bytes)) (hzc : z.cells.size = 1) (hby : bytes ≤ 16)
    (hgd : o.guard = none) (sl y : Operand) (ho : o.op = .call { callee := .builtin .append, args := #[sl, y], argTypes := #[T, T] })
    (hbuf : w.ownsRow base e 1 (.slice (some ⟨g, 0, none⟩) n cap) n xs) (v : Value) (hv : v.oneCell' = true) (hs : A.eval sl = .slice (some ⟨g, 0, none⟩) n cap) {H : Nat} (hH : w.heap.size = H) (hx : A.eval y = .slice (some ⟨H, 0, none⟩) 1 1) (hlen : n + 1 ≤ 1048576) (hb : base ≤ w.heap.size)
    (h : ∀ g' cap' w', w'.ownsRow base e 1 (.slice (some ⟨g', 0, none⟩) (n + 1) cap') (n + 1) (xs ++ [v]) → w.grownBy w' (some g) → (g' = g ∨ w.heap.size ≤ g') → wpList Try.prog ops Q rest (A.put o.dst (.slice (some ⟨g', 0, none⟩) (n + 1) cap')) w') : wpList Try.prog ops Q (o :: rest) A (w.alloc (.cells #[v] e)) := by
  subst hH
  obtain ⟨i0, hi, hz0, hz1, hz2⟩ := info_parts hinfo
  have hb2 := hbuf.alloc (.cells #[v] e)
  have hone : ∀ u ∈ [v], u.oneCell' = true := by
    intro u hu
    simp at hu
    subst hu
    exact hv
  have hbb : (n + 1) * bytes ≤ 140737488355328 := Nat.le_trans (Nat.mul_le_mul hlen hby) (by decide)
  refine wpList_append_lies _ hgd sl y T ho base e i0 z 1 bytes hu hi hz0 hz1 hz2 hzc (by omega) _ n _ hs hb2 ⟨w.heap.size, 0, none⟩ 1 1 [v] hx rfl (World.news_of_block (heap_alloc_new w _)) hone (by omega) (by unfold maxLen; omega) hbb (by simp; omega) _ rfl ?_
  intro g' cap' w' ho' hg' hl' _
  refine h g' cap' w' ho' ((World.grownBy_alloc w _ _).trans hg') ?_
  rcases hl' with q | q
  · left
    have e' : g = g' := by simpa [Value.ownBlock] using q
    exact e'.symm
  · right
    rw [q]
    simp

theorem infoS : (Try.prog.info? 9).map (fun i => (i.zero, i.size, i.bytes)) = some (some (.string ⟨#[]⟩), 1, 16) := by kernel_rfl

theorem owns_blk {base g n cap : Nat} {e : TypeId} {xs : List Value} (h : w.ownsRow base e 1 (.slice (some ⟨g, 0, none⟩) n cap) n xs) : K0.Blk g xs w := by
  have hl : xs.length = n := by have := h.1; omega
  refine ⟨fun j hj => ?_, fun j hj => h.frozenAt j, (h.lt g rfl).2⟩
  rw [h.cellAt j (by omega), List.getElem?_eq_getElem hj]

/-- The rows of parents and names. -/
def pv (l : List (Nat × T0.Ent)) : List Value := (List.range 8).map fun (x : Nat) => .int .i64 (TR.par l (x : Int))
def nv (l : List (Nat × T0.Ent)) : List Value := (List.range 8).map fun (x : Nat) => .string (TR.nam l (x : Int))
theorem pv_length (l : List (Nat × T0.Ent)) : (pv l).length = 8 := by simp [pv]
theorem nv_length (l : List (Nat × T0.Ent)) : (nv l).length = 8 := by simp [nv]
theorem map_set {f : Nat → Value} {x : Nat} (v : Value) (hx : x < 8) : ((List.range 8).map f).set x v = (List.range 8).map fun y => if y = x then v else f y := by
  apply List.ext_getElem
  · simp
  · intro k h1 h2
    have hk : k < 8 := by simpa using h1
    rw [List.getElem_set]
    by_cases e : x = k
    · subst e
      simp
    · have e' : ¬ k = x := fun q => e q.symm
      simp [e, e']

theorem pv_first {l : List (Nat × T0.Ent)} {i x : Nat} {nm : ByteArray} (hx : x < 8) (h : TR.par l (x : Int) = -1) : (pv l).set x (.int .i64 (i : Int)) = pv (l ++ [(i, ((x : Int), nm))]) := by
  unfold pv
  rw [map_set _ hx]
  apply List.map_congr_left
  intro y _
  rw [TR.par_step]
  by_cases e : y = x
  · subst e
    rw [if_pos rfl, if_pos rfl, if_pos h]
  · have : ¬ ((x : Int) = (y : Int)) := by omega
    rw [if_neg e, if_neg this]
theorem pv_more {l : List (Nat × T0.Ent)} {i x : Nat} {nm : ByteArray} (hx : x < 8) (h : ¬ TR.par l (x : Int) = -1) : (pv l).set x (.int .i64 (-2)) = pv (l ++ [(i, ((x : Int), nm))]) := by
  unfold pv
  rw [map_set _ hx]
  apply List.map_congr_left
  intro y _
  rw [TR.par_step]
  by_cases e : y = x
  · subst e
    rw [if_pos rfl, if_pos rfl, if_neg h]
  · have : ¬ ((x : Int) = (y : Int)) := by omega
    rw [if_neg e, if_neg this]
theorem nv_first {l : List (Nat × T0.Ent)} {i x : Nat} {nm : ByteArray} (hx : x < 8) (h : TR.par l (x : Int) = -1) : (nv l).set x (.string nm) = nv (l ++ [(i, ((x : Int), nm))]) := by
  unfold nv
  rw [map_set _ hx]
  apply List.map_congr_left
  intro y _
  rw [TR.nam_step]
  by_cases e : y = x
  · subst e
    rw [if_pos rfl, if_pos ⟨rfl, h⟩]
  · have : ¬ ((x : Int) = (y : Int) ∧ TR.par l (y : Int) = -1) := fun q => by have := q.1; omega
    rw [if_neg e, if_neg this]
theorem nv_more {l : List (Nat × T0.Ent)} {i x : Nat} {nm : ByteArray} (h : ¬ TR.par l (x : Int) = -1) : nv l = nv (l ++ [(i, ((x : Int), nm))]) := by
  unfold nv
  apply List.map_congr_left
  intro y _
  rw [TR.nam_step]
  have : ¬ ((x : Int) = (y : Int) ∧ TR.par l (y : Int) = -1) := fun q => by
    have e : x = y := by have := q.1; omega
    subst e
    exact h q.2
  rw [if_neg this]
theorem pv_nil : pv [] = List.replicate 8 (.int .i64 (-1)) := rfl
theorem nv_nil : nv [] = List.replicate 8 (.string ⟨#[]⟩) := rfl

theorem ret_bool {a b : Bool} (h : a = b) : Ending.returned (.bool a) = .returned (.bool b) := by rw [h]

set_option maxHeartbeats 1000000 in
/-- l04Root over the row of parents. -/
theorem l04Root (p : Int → Int) (g c : Nat) (i : Int) (w : World) (hp : ∀ x, p x < 8) (hB : ∀ x : Nat, x < 8 → w.cell? ⟨g, x, none⟩ = some (.int .i64 (p (x : Int)))) (hi : i < 8) :
    Calls Try.prog 33 #[.slice (some ⟨g, 0, none⟩) 8 c, .int .i64 i] w fun e w' => e = .returned (.bool (TR.root p 8 i)) ∧ w' = w := by
  go_enter Try.func33, Try.ntmps33
  go_wp2
  go_loop [1, 5] (fun v n => ∃ (k : Nat) (j : Int), k ≤ 8 ∧ n = .int .i64 k ∧ v = .int .i64 j ∧ j < 8 ∧ TR.root p (8 - k) j = TR.root p 8 i) (fun _ n => 8 - (intOf n).toNat)
  case atStart => exact ⟨0, i, Nat.zero_le _, rfl, rfl, hi, rfl⟩
  case round =>
    obtain ⟨k, j, hk, rfl, rfl, hj, hr⟩ := hrel
    have HR : Hid (TR.root p (8 - k) j = TR.root p 8 i) := hr
    clear hr
    by_cases hlt : k < 8
    · have e1 : (k : Int) < 8 := by omega
      by_cases h0 : j = 0
      · subst h0
        go_wp2
        go_ret
        exact ⟨ret_bool (by rw [← HR.out, TR.root_zero]), rfl⟩
      · have h0' : (j == 0) = false := by simpa using h0
        by_cases hn : j < 0
        · go_wp2
          go_ret
          exact ⟨ret_bool (by rw [← HR.out, TR.root_neg _ _ _ hn]), rfl⟩
        · obtain ⟨x, rfl⟩ : ∃ x : Nat, j = (x : Int) := ⟨j.toNat, by omega⟩
          have hc := hB x (by omega)
          have hn' : decide ((x : Int) < 0) = false := by simp
          have b1 : (0 : Int) ≤ (x : Int) := by omega
          have b2 : (x : Int) < 8 := by omega
          have hq := hp (x : Int)
          have HS : Hid (TR.root p (8 - (k + 1)) (p (x : Int)) = TR.root p 8 i) := by
            show _ = _
            rw [← HR.out, show 8 - k = (8 - (k + 1)) + 1 by omega, TR.root_pos _ _ _ (by omega)]
          obtain ⟨q, eq⟩ : ∃ q, p (x : Int) = q := ⟨_, rfl⟩
          rw [eq] at hc hq HS
          clear eq hB hp
          go_wp2
          go_round
          case rel => exact ⟨k + 1, q, by omega, by go_num, rfl, hq, HS.out⟩
          case measure => simp [intOf]; omega
    · obtain rfl : k = 8 := by omega
      have hfin : (j == 0) = TR.root p 8 i := by rw [← HR.out]; rfl
      clear HR
      obtain ⟨r, er⟩ : ∃ r, TR.root p 8 i = r := ⟨_, rfl⟩
      rw [er] at hfin
      have HE : Hid (TR.root p 8 i = r) := er
      clear er
      go_wp2
      go_ret
      exact ⟨ret_bool HE.out.symm, rfl⟩

set_option maxHeartbeats 1000000 in
theorem l04Owned (mem : ByteArray) (w : World) (hms : mem.size ≤ 281474976710656) :
    Calls Try.prog 30 #[.string mem] w fun e w' => ∃ a c, e = .returned (.slice a (cat (tZ mem) 8).length c) ∧ (cat (tZ mem) 8).length ≤ c ∧ Own w.heap.size w' a (cat (tZ mem) 8) ∧ Below w.heap.size w w' := by
  have hG : Hid (∀ (k : Nat) W, Calls Try.prog 50 #[.string (O0.recd mem (k : Int))] W (G3.Ans (O0.recd mem (k : Int)) W)) := fun k W => G4.spec_GetInode _ W (O0.recd_size mem _ hms)
  have hA : Hid (∀ (k : Nat) W e w', G3.Ans (O0.recd mem (k : Int)) W e w' → ∃ (q o s : Int) (a : Option Addr) (c : Nat) (b : Bool), e = .returned (.tuple #[.agg #[.int .i64 q, .int .i64 o, .int .i64 s, .slice a (tZ mem k).length c], .bool b]) ∧ J0.Own W.heap.size w' a (tZ mem k) ∧ Below W.heap.size W w') := fun k W e w' ⟨a, c, he, ho, hc, hb⟩ => ⟨_, _, _, a, c, _, he, ho, hb⟩
  have hL : Hid (∀ (k : Nat) W, Calls Try.prog 51 #[.string mem, .int .i64 (k : Int)] W fun e w' => e = .returned (.string (O0.recd mem (k : Int))) ∧ w' = W) := fun k W => O1.l03Rec mem k W hms
  have hlen := TW.cat_len (TW.pg_few mem)
  have b0 := J0.ibuf_made (base := w.heap.size) w (Nat.le_refl _)
  have l0 := K0.below_new w (.cells #[] 3)
  go_enter Try.func30, Try.ntmps30
  go_wp2
  go_loopw [3, 4] (fun v i w' => ∃ (k n c : Nat) (a : Option Addr), k ≤ 8 ∧ i = .int .i64 k ∧ v = .slice a n c ∧ IBuf w.heap.size w' a n c (cat (tZ mem) k) ∧ Below w.heap.size w w') (fun _ i _ => 8 - (intOf i).toNat)
  case atStart => exact ⟨0, 0, 0, _, Nat.zero_le _, rfl, rfl, b0, l0⟩
  case round =>
    obtain ⟨k, n, c, a, hk, rfl, rfl, hbuf, hbel⟩ := hrel
    clear b0 l0
    by_cases hlt : k < 8
    · have e1 : (k : Int) < 8 := by omega
      have HS : Hid (cat (tZ mem) k ++ tZ mem k = cat (tZ mem) (k + 1)) := rfl
      have hnl : n ≤ 96 := by
        have := hlen k
        rw [hbuf.1]
        omega
      have hfew := TW.pg_few mem k
      have hLk := hL.out k
      have hGk := hG.out k
      have hAk : Hid (∀ W e w', G3.Ans (O0.recd mem (k : Int)) W e w' → ∃ (q o s : Int) (a : Option Addr) (c : Nat) (b : Bool), e = .returned (.tuple #[.agg #[.int .i64 q, .int .i64 o, .int .i64 s, .slice a (tZ mem k).length c], .bool b]) ∧ J0.Own W.heap.size w' a (tZ mem k) ∧ Below W.heap.size W w') := hA.out k
      obtain ⟨zk, hzk⟩ : ∃ zk, tZ mem k = zk := ⟨_, rfl⟩
      obtain ⟨rk, hrk⟩ : ∃ rk, O0.recd mem (k : Int) = rk := ⟨_, rfl⟩
      rw [hzk] at HS hfew hAk
      rw [hrk] at hLk hGk hAk
      clear hzk hrk hL hG hA
      go_wp2_with (first
        | (go_at_call 51; refine (hLk _).mono ?_; rintro e wq ⟨rfl, rfl⟩)
        | (go_at_call 50; refine (hGk _).mono ?_; intro e w2 hans; obtain ⟨q, o, s, a2, c2, bb, rfl, o2, b2⟩ := hAk.out _ _ _ hans; clear hans; have n2 := K0.below_new w2 (.cells #[.int .i64 q, .int .i64 o, .int .i64 s, .slice a2 zk.length c2] 45); have y3 := (K0.blk_new [.int .i64 q, .int .i64 o, .int .i64 s, .slice a2 zk.length c2] w2 45).c3; have bf2 := (hbuf.below b2).below n2; have r2 := (o2.row.below n2); have l2 := (hbel.trans (b2.mono hbel.size)).trans (n2.mono (Nat.le_trans hbel.size b2.size)))
        | (at_builtin; refine Q1.append_rows rfl (.tmp 19) (.tmp 21) rfl bf2 _ _ zk (by rfl) (by rfl) r2 (by omega) l2.size ?_; intro a3 c3 w3 bf3 b3))
      go_roundw
      case rel => exact ⟨k + 1, n + zk.length, c3, a3, by omega, by go_num, rfl, by rw [← HS.out]; exact bf3, l2.trans b3⟩
      case measure => simp [intOf]; omega
    · obtain rfl : k = 8 := by omega
      have hn : n = (cat (tZ mem) 8).length := hbuf.1
      subst hn
      go_wp2
      go_ret
      exact ⟨a, c, rfl, hbuf.fits, hbuf.own, hbel⟩
end Go.Proofs.Ytddlpejklpljoaa.TS
