/- Joined texts: plain facts and contracts. -/
import Derived.Test.YtpkmeknniajahaaGreatDoorJnI
import Derived.Test.YtpkmeknniajahaaGreatDoorJnJ
import Derived.Test.YtpkmeknniajahaaGreatDoorJnB
import Derived.Deep.MidRow
import Derived.Sort.Grow
import Derived.Test.YtpkmeknniajahaaGreatDoorJnC
import Derived.Deep.QuietTactic
import Derived.BigQuiet
import Derived.Test.YtpkmeknniajahaaGreatDoorJnF
import Derived.Deep.Fields
set_option linter.unusedVariables false
set_option linter.unusedSimpArgs false
set_option maxRecDepth 10000
namespace Go.Proofs.YtpkmeknniajahaaGreatDoor.TW
open Go.ChangeShapes Go.WideShapes Go.ChangeAt Go.RowKit
open Go.Sort (Holds putRow grow)
variable {B : Nat} {N : Nat → Nd} {F : Nat → Nat} {P : Nat → ByteArray} {w W W' : World} {E : Nat → List T0.Ent}
open J0 (IBuf Own)
open I2 (ints)
theorem holds_of {g : Nat} {zs : List Int} (h : K0.Blk g (ints zs) W) : Holds (Value.int .i64) W g 0 zs.toArray := by
 intro j hj
 have hj' : j < zs.length := by simpa using hj
 have h1 := h.cell j (by simpa using hj')
 have h2 := h.free j (by simpa using hj')
 refine ⟨?_, by simpa using h2⟩
 rw [Nat.zero_add, h1]
 simp [hj']
theorem blk_of {g : Nat} {zs : List Int} (hg : g < W.heap.size) (h : Holds (Value.int .i64) W g 0 zs.toArray) : K0.Blk g (ints zs) W := by
 refine ⟨fun j hj => ?_, fun j hj => ?_, hg⟩
 ·have hj' : j < zs.length := by simpa using hj
  have := (h j (by simpa using hj')).1
  rw [Nat.zero_add] at this
  rw [this]
  simp [hj']
 ·have hj' : j < zs.length := by simpa using hj
  have := (h j (by simpa using hj')).2
  rwa [Nat.zero_add] at this
theorem sorted_blk {g n : Nat} {zs ys : List Int} {os : Array Obj} (h : K0.Blk g (ints zs) W) (hl : ys.length = zs.length) : K0.Blk g (ints ys) (grow (putRow (Value.int .i64) (Sort.ahead W n) g 0 ys.toArray) os) := by
 have h0 : Holds (Value.int .i64) (Sort.ahead W n) g 0 zs.toArray := Go.Sort.holds_ahead _ _ _ _ _ _ (holds_of h)
 have hlt : g < (putRow (Value.int .i64) (Sort.ahead W n) g 0 ys.toArray).heap.size := by rw [Go.Sort.size_putRow]; exact h.lt
 refine blk_of (by rw [Go.Sort.size_grow]; omega) (Go.Sort.holds_grow _ _ _ _ _ _ hlt (Go.Sort.holds_putRow _ _ _ _ _ _ h0 (by simpa using hl)))
theorem sorted_below {g n base : Nat} {ys : List Int} {os : Array Obj} (hb : base ≤ g) (hg : base ≤ W.heap.size) : Below base W (grow (putRow (Value.int .i64) (Sort.ahead W n) g 0 ys.toArray) os) := by
 refine ⟨rfl, rfl, rfl, ?_, fun k hk => ?_⟩
 ·rw [Go.Sort.size_grow, Go.Sort.size_putRow]
  exact Nat.le_add_right _ _
 ·rw [Go.Sort.heap_grow_old _ _ (by rw [Go.Sort.size_putRow]; exact Nat.lt_of_lt_of_le hk hg)]
  show (W.heap.modify g _)[k]? = W.heap[k]?
  rw [Array.getElem?_modify]
  rw [if_neg (by omega)]
def srt (zs : List Int) : List Int := zs.mergeSort fun x y => decide (x ≤ y)
theorem srt_perm (zs : List Int) : (srt zs).Perm zs := List.mergeSort_perm zs _
theorem srt_length (zs : List Int) : (srt zs).length = zs.length := (srt_perm zs).length_eq
theorem srt_sorted (zs : List Int) : (srt zs).Pairwise (· ≤ ·) := by
 have := List.pairwise_mergeSort (le := fun x y : Int => decide (x ≤ y)) (fun a b c h1 h2 => by simp only [decide_eq_true_eq] at h1 h2 ⊢; omega) (fun a b => by simp only [Bool.or_eq_true, decide_eq_true_eq]; omega) zs
 exact this.imp fun h => by simpa using h
def cat (Z : Nat → List Int) : Nat → List Int
 | 0 => []
 | i + 1 => cat Z i ++ Z i
theorem cat_len {Z : Nat → List Int} (h : ∀ i, (Z i).length ≤ 12) : ∀ i, (cat Z i).length ≤ 12 * i
 | 0 => Nat.le_refl _
 | i + 1 => by
  have := cat_len h i
  have := h i
  rw [cat, List.length_append]
  omega
def nds (N : Nat → Nd) : Nat → List Value
 | 0 => []
 | i + 1 => nds N i ++ (N i).vals
theorem nds_length (N : Nat → Nd) : ∀ i, (nds N i).length = i * 6
 | 0 => rfl
 | i + 1 => by rw [nds, List.length_append, nds_length N i, Nd.vals_length]; omega
theorem nds_get (N : Nat → Nd) : ∀ n i, i < n → ((nds N n).drop (i * 6)).take 6 = (N i).vals
 | 0, i, h => by omega
 | n + 1, i, h => by
  rw [nds]
  by_cases e : i = n
  ·subst e
   rw [List.drop_append_of_le_length (by rw [nds_length]; exact Nat.le_refl _), List.drop_eq_nil_of_le (by rw [nds_length]; exact Nat.le_refl _), List.nil_append]
   exact List.take_of_length_le (Nat.le_of_eq (Nd.vals_length _))
  ·have hl := nds_length N n
   rw [List.drop_append_of_le_length (by omega), List.take_append_of_le_length (by rw [List.length_drop]; omega)]
   exact nds_get N n i (by omega)
theorem nds_at (N : Nat → Nd) (i j : Nat) (hi : i < 8) (hj : j < 6) : (nds N 8)[i * 6 + j]? = (N i).vals[j]? := by
 have := congrArg (fun l : List Value => l[j]?) (nds_get N 8 i hi)
 rw [List.getElem?_take, if_pos hj, List.getElem?_drop] at this
 exact this
theorem Tb.range (h : Tb B N F P W) : W.rangeAt B 0 (nds N 8) := by
 intro j v hv
 have hj : j < 48 := by
  have := (List.getElem?_eq_some_iff.1 hv).1
  rw [nds_length] at this
  exact this
 have e : j = j / 6 * 6 + j % 6 := by omega
 rw [e, nds_at N (j / 6) (j % 6) (by omega) (by omega)] at hv
 rw [Nat.zero_add, e]
 obtain ⟨h1, h2⟩ := List.getElem?_eq_some_iff.1 hv
 rw [h.node (j / 6) (by omega) (j % 6) h1, h2]
theorem infoNodes : (Tryz.prog.info? 79).map (·.size) = some 48 := by kernel_rfl
theorem infoNode : (Tryz.prog.info? 78).map (·.size) = some 6 := by kernel_rfl
theorem run_node (N : Nat → Nd) (i : Nat) (hi : i < 8) (W : World) : (Instr.index 79 (.agg (nds N 8).toArray) (.int .i64 (i : Int))).run Tryz.prog W = .ok (.agg #[.int .i64 (N i).k, .int .i64 (N i).o, .int .i64 (N i).s, .slice (N i).a (N i).n (N i).c, .string (N i).x, .slice (N i).ae (N i).ne (N i).ce]) W := by
 have e1 : (0 : Int) ≤ (i : Int) := by omega
 have e2 : (i : Int) < 8 := by omega
 obtain ⟨q, hq, hs⟩ : ∃ q, Tryz.prog.info? 78 = some q ∧ q.size = 6 := by
  have := infoNode
  cases h : Tryz.prog.info? 78 with
  | none => rw [h] at this; simp at this
  | some q => rw [h] at this; exact ⟨q, rfl, by simpa using this⟩
 have hg := nds_get N 8 i hi
 simp [Instr.index, asIntOf, run_underlying Tryz.underlying79, e1, e2, sizeOf, typeInfo, hq, hs, part]
 rw [if_pos hi, hg]
 rfl
theorem compact_len (zs : List Int) : (Lib.compact zs).length = zs.length ↔ ∀ j, j < zs.length → Lib.keeps zs.toArray j = true := by
 unfold Lib.compact Lib.compactUpTo
 rw [List.length_map]
 constructor
 ·intro h j hj
  have := List.length_filter_eq_length_iff.1 (h.trans (List.length_range (n := zs.length)).symm) j (List.mem_range.2 hj)
  exact this
 ·intro h
  rw [List.filter_eq_self.2 fun j hj => h j (List.mem_range.1 hj), List.length_range]
theorem keeps_iff (zs : List Int) (j : Nat) (hj : j < zs.length) : Lib.keeps zs.toArray j = true ↔ (j = 0 ∨ zs[j] ≠ zs[j - 1]'(by omega)) := by
 have e1 : zs.toArray[j]! = zs[j] := by simp [hj]
 have e2 : zs.toArray[j - 1]! = zs[j - 1]'(by omega) := by
  have : j - 1 < zs.length := by omega
  simp [this]
 unfold Lib.keeps
 rw [e1, e2]
 simp
theorem apart_iff (zs : List Int) : (Lib.compact (srt zs)).length = zs.length ↔ zs.Nodup := by
 rw [← srt_length zs, compact_len, ← (srt_perm zs).nodup_iff]
 have hs := List.pairwise_iff_getElem.1 (srt_sorted zs)
 constructor
 ·intro h
  refine List.pairwise_iff_getElem.2 fun i j hi hj hij => ?_
  have hk := (keeps_iff (srt zs) j hj).1 (h j hj)
  rcases hk with hk | hk
  ·omega
  ·have h1 : (srt zs)[j - 1]'(by omega) ≤ (srt zs)[j] := hs (j - 1) j (by omega) hj (by omega)
   have h2 : (srt zs)[i] ≤ (srt zs)[j - 1]'(by omega) := by
    by_cases e : i = j - 1
    ·subst e
     exact Int.le_refl _
    ·exact hs i (j - 1) hi (by omega) (by omega)
   omega
 ·intro h j hj
  refine (keeps_iff (srt zs) j hj).2 ?_
  by_cases h0 : j = 0
  ·exact Or.inl h0
  ·right
   have := List.pairwise_iff_getElem.1 h (j - 1) j (by omega) hj (by omega)
   exact fun e => this e.symm
theorem append_rows3 {ops : Array Oper} {rest : List Oper} {o : Oper} {A : Act} {Q : Exit → Act → World → Prop} {base g n cap : Nat} {zs : List Int} (hgd : o.guard = none) (sl x : Operand)
  (ho : o.op = .call { callee := .builtin .append, args := #[sl, x], argTypes := #[28, 28] })
  (hbuf : IBuf base w (some ⟨g, 0, none⟩) n cap zs) (ax : Option Addr) (cx : Nat) (xs : List Int) (hs : A.eval sl = .slice (some ⟨g, 0, none⟩) n cap) (hx : A.eval x = .slice ax xs.length cx) (hR : P0.Row w ax xs) (hlen : n + xs.length ≤ 4194304) (hb : base ≤ w.heap.size)
  (h : ∀ g' cap' w', IBuf base w' (some ⟨g', 0, none⟩) (n + xs.length) cap' (zs ++ xs) → Below base w w' → wpList Tryz.prog ops Q rest (A.put o.dst (.slice (some ⟨g', 0, none⟩) (n + xs.length) cap')) w') : wpList Tryz.prog ops Q (o :: rest) A w := by
 obtain ⟨i0, hi, hz0, hz1, hz2⟩ := info_parts I2.info3
 by_cases h0 : xs = []
 ·subst h0
  refine Lib.wpList_append_run _ hgd sl x 28 28 ho _ _ hs hx _ _ (Q1.run_append_none w 28 _ 3 i0 Tryz.underlying28 hi _ n cap hbuf.fits ax cx) ?_
  exact h g cap w (by rw [List.append_nil]; exact hbuf) (Below.refl _ _)
 ·rcases hR with hR | ⟨b, off, rfl, hb2, hc⟩
  ·exact absurd hR h0
  ·have hm : 0 < xs.length := List.length_pos_iff.2 h0
   refine wpList_append_lies _ hgd sl x 28 ho base 3 i0 (.int .i64 0) 1 8 Tryz.underlying28 hi hz0 hz1 hz2 rfl (by omega) _ n _ hs hbuf.2 ⟨b, off, none⟩ xs.length cx (ints xs) hx (by simp) ?_ (Q1.ints_one xs) hm (by unfold maxLen; omega) (by omega) hb _ rfl ?_
   ·intro j u hj
    have hj' : j < xs.length := by
     have := (List.getElem?_eq_some_iff.1 hj).1
     simpa using this
    rw [B0.add_off, hc j hj', P0.getD_get _ _ hj', ← hj]
    simp [hj']
   ·intro g' cap' w' ho' hg' _ _
    refine h g' cap' w' ⟨by rw [hbuf.1]; simp, ?_⟩ ?_
    ·rw [show ints (zs ++ xs) = ints zs ++ ints xs by simp]
     exact ho'
    ·exact F0.below_grown (Below.refl _ _) hg' (J0.own_block hbuf) hb
end Go.Proofs.YtpkmeknniajahaaGreatDoor.TW
namespace Go.Proofs.YtpkmeknniajahaaGreatDoor.TW
open Go.ChangeShapes Go.WideShapes Go.ChangeAt Go.RowKit
open Go.Sort (Holds putRow grow)
variable {B : Nat} {N : Nat → Nd} {F : Nat → Nat} {P : Nat → ByteArray} {w W W' : World} {Z : Nat → List Int}
open J0 (IBuf Own)
open I2 (ints)
structure Ps (N : Nat → Nd) (Z : Nat → List Int) (W : World) : Prop where
 n : ∀ i, i < 8 → (N i).n = (Z i).length
 row : ∀ i, i < 8 → P0.Row W (N i).a (Z i)
 few : ∀ i, (Z i).length ≤ 12
theorem Ps.below (h : Ps N Z W) (hb : Below W.heap.size W W') : Ps N Z W' := ⟨h.n, fun i hi => (h.row i hi).below hb, h.few⟩
set_option maxHeartbeats 2000000 in
theorem pages (w : World) (hT : Tb B N F P w) (hZ : Ps N Z w) :
  Calls Tryz.prog 27 #[.pointer (some ⟨B, 0, none⟩)] w fun e w' => ∃ g c, e = .returned (.slice (some ⟨g, 0, none⟩) (cat Z 8).length c) ∧ (cat Z 8).length ≤ c ∧ w.heap.size ≤ g ∧ K0.Blk g (ints (srt (cat Z 8))) w' ∧ Below w.heap.size w w' := by
 have hr := World.rangeAt_alloc hT.range (.cells #[] 3)
 have hn48 : (nds N 8).length = 48 := nds_length N 8
 have hix := fun i hi W => run_node N i hi W
 obtain ⟨C, hC⟩ : ∃ C, (nds N 8).toArray = C := ⟨_, rfl⟩
 have HC : Hid ((nds N 8).toArray = C) := hC
 rw [hC] at hix
 have HX : Hid (∀ i : Nat, i < 8 → ∀ W, (Instr.index 79 (.agg C) (.int .i64 (i : Int))).run Tryz.prog W = .ok (.agg #[.int .i64 (N i).k, .int .i64 (N i).o, .int .i64 (N i).s, .slice (N i).a (N i).n (N i).c, .string (N i).x, .slice (N i).ae (N i).ne (N i).ce]) W) := hix
 have b0 := J0.ibuf_made (base := w.heap.size) w (Nat.le_refl _)
 have l0 := K0.below_new w (.cells #[] 3)
 have hlen := cat_len hZ.few
 clear hC hix
 go_enter Tryz.func27, Tryz.ntmps27
 go_wp2_with (refine wpList_load_mid rfl 79 (.tmp 9) rfl B 0 rfl _ _ hr Tryz.underlying79 rfl (by rw [infoNodes, hn48]) ?_; rw [HC.out])
 clear hr
 go_loopw [3, 11] (fun v i w' => ∃ (k n c g : Nat), k ≤ 8 ∧ i = .int .i64 k ∧ v = .slice (some ⟨g, 0, none⟩) n c ∧ IBuf w.heap.size w' (some ⟨g, 0, none⟩) n c (cat Z k) ∧ Below w.heap.size w w') (fun _ i _ => 8 - (intOf i).toNat)
 case atStart => exact ⟨0, 0, 0, _, Nat.zero_le _, rfl, rfl, b0, l0⟩
 case round =>
  obtain ⟨k, n, c, g, hk, rfl, rfl, hbuf, hbel⟩ := hrel
  clear b0 l0
  by_cases hlt : k < 8
  ·have hx := HX.out k hlt
   have hpn := hZ.n k hlt
   have hrow := (hZ.row k hlt).below (hbel)
   have e1 : (0 : Int) ≤ (k : Int) := by omega
   have e2 : (k : Int) < 8 := by omega
   have hnl : n ≤ 96 := by
    have := hlen k
    rw [hbuf.1]
    omega
   have hfew := hZ.few k
   have HS : Hid (cat Z k ++ Z k = cat Z (k + 1)) := rfl
   obtain ⟨zk, hzk⟩ : ∃ zk, Z k = zk := ⟨_, rfl⟩
   rw [hzk] at hpn hrow hfew HS
   obtain ⟨d, hd⟩ : ∃ d, N k = d := ⟨_, rfl⟩
   rw [hd] at hx hpn hrow
   rw [hpn] at hx
   clear hzk hd hpn
   have nb := K0.blk_new d.vals wr 78
   have nl := K0.below_new wr (.cells #[.int .i64 d.k, .int .i64 d.o, .int .i64 d.s, .slice d.a zk.length d.c, .string d.x, .slice d.ae d.ne d.ce] 78)
   have hbuf1 := hbuf.below nl
   have hrow1 := hrow.below nl
   have hbel1 := hbel.trans (nl.mono hbel.size)
   have c3 : (wr.alloc (.cells #[.int .i64 d.k, .int .i64 d.o, .int .i64 d.s, .slice d.a zk.length d.c, .string d.x, .slice d.ae d.ne d.ce] 78)).cell? ⟨wr.heap.size, 3, none⟩ = some (.slice d.a zk.length d.c) := (K0.blk_new [.int .i64 d.k, .int .i64 d.o, .int .i64 d.s, .slice d.a zk.length d.c, .string d.x, .slice d.ae d.ne d.ce] wr 78).cell 3 (by simp)
   go_wp2_with (at_builtin; refine append_rows3 rfl (.tmp 14) (.tmp 17) rfl hbuf1 _ _ zk (by rfl) (by rfl) hrow1 (by omega) hbel1.size ?_; intro g2 c2 w2 bf2 bl2)
   go_roundw
   case rel => exact ⟨k + 1, n + zk.length, c2, g2, by omega, by go_num, rfl, by rw [← HS.out]; exact bf2, hbel1.trans bl2⟩
   case measure => simp [intOf]; omega
  ·obtain rfl : k = 8 := by omega
   have hn : n = (cat Z 8).length := hbuf.1
   have hc8 := hlen 8
   subst hn
   have hlt' := hbuf.2.lt g rfl
   have hH : K0.Blk g (ints (cat Z 8)) wr := by
    rcases hbuf.own with h0 | ⟨g', e, _, hk'⟩
    ·rw [h0]
     exact ⟨fun j hj => by simp at hj, fun j hj => by simp at hj, hlt'.2⟩
    ·cases e
     exact hk'
   have hsort := Tryz.slices_Sort_int g 0 c (cat Z 8) wr (holds_of hH) hlt'.2 (by omega)
   have HB : Hid (K0.Blk g (ints (cat Z 8)) wr ∧ IBuf w.heap.size wr (some ⟨g, 0, none⟩) (cat Z 8).length c (cat Z 8)) := ⟨hH, hbuf⟩
   clear hbuf hH hZ hT HX HC
   go_wp2_with (go_at_call 62; refine hsort.mono ?_; rintro e w7 ⟨rfl, m7, os7, hw7⟩)
   go_ret
   subst hw7
   exact ⟨g, c, rfl, HB.out.2.fits, hlt'.1, sorted_blk HB.out.1 (srt_length _), hbel.trans (sorted_below hlt'.1 hbel.size)⟩
end Go.Proofs.YtpkmeknniajahaaGreatDoor.TW
namespace Go.Proofs.YtpkmeknniajahaaGreatDoor.R0
open Go
def pg (zs : List Int) : ByteArray := ⟨(zs.map fun z => UInt8.ofNat z.toNat).toArray⟩
theorem pg_size (zs : List Int) : (pg zs).size = zs.length := by simp [pg, ByteArray.size]
theorem pg_snoc (zs : List Int) (k : Nat) (h : k < zs.length) : pg (zs.take k) ++ ⟨#[UInt8.ofNat (zs.getD k 0).toNat]⟩ = pg (zs.take (k + 1)) := by
 apply ByteArray.ext
 rw [ByteArray.data_append]
 apply Array.toList_inj.1
 simp only [pg, Array.toList_append, List.take_succ_eq_append_getElem h, List.map_append, List.map_cons, List.map_nil, P0.getD_get zs k h]
def two (k o : Int) : ByteArray := ⟨#[UInt8.ofNat k.toNat, UInt8.ofNat o.toNat]⟩
theorem two_size (k o : Int) : (two k o).size = 2 := rfl
def head (k o s : Int) (zs : List Int) : ByteArray := two k o ++ B3.pair s ++ pg zs
def putI (k o s : Int) (zs : List Int) : ByteArray := if I0.ok k o s zs then head k o s zs ++ B4.nulls (12 - zs.length) else ⟨#[]⟩
theorem pair_size (s : Int) (h0 : 0 ≤ s) (h1 : s ≤ 65535) : (B3.pair s).size = 2 := by
 rw [B3.pair, show B1.inB s 0 65535 = true from decide_eq_true ⟨h0, h1⟩]
 rfl
theorem ok_bounds {k o s : Int} {zs : List Int} (h : I0.ok k o s zs = true) : (0 ≤ k ∧ k ≤ 2) ∧ (0 ≤ o ∧ o ≤ 9) ∧ (0 ≤ s ∧ s ≤ 192) ∧ zs.length ≤ 6 ∧ (zs.length : Int) = P0.need s ∧ P0.pagesOk zs = true := by
 have hh : ∀ {o s : Int} {zs : List Int}, I0.holds o s zs = true → (0 ≤ o ∧ o ≤ 9) ∧ (0 ≤ s ∧ s ≤ 192) ∧ zs.length ≤ 6 ∧ (zs.length : Int) = P0.need s ∧ P0.pagesOk zs = true := by
  intro o s zs h
  simp only [I0.holds, Bool.and_eq_true, decide_eq_true_eq] at h
  have h1 := B1.inB_true h.1
  have h2 := B1.inB_true h.2.1
  have h3 := h.2.2.1
  refine ⟨h1, h2, ?_, h3, h.2.2.2⟩
  unfold P0.need at h3
  omega
 unfold I0.ok at h
 split at h
 ·rename_i e
  simp only [I0.free, Bool.and_eq_true, decide_eq_true_eq] at h
  have hz : zs = [] := List.eq_nil_of_length_eq_zero h.2.2
  refine ⟨by omega, by omega, by omega, by omega, ?_, ?_⟩
  ·rw [h.2.1, h.2.2]; decide
  ·rw [hz]; rfl
 ·split at h
  ·rename_i e
   exact ⟨by omega, hh h⟩
  ·split at h
   ·rename_i e
    simp only [Bool.and_eq_true] at h
    exact ⟨by omega, hh h.1⟩
   ·cases h
theorem pages_bounds {zs : List Int} (h : P0.pagesOk zs = true) {k : Nat} (hk : k < zs.length) : 5 ≤ zs.getD k 0 ∧ zs.getD k 0 ≤ 23 := by
 have h1 : P0.okAt zs k = true := by
  cases hb : P0.okAt zs k with
  | true => rfl
  | false => rw [P0.pagesOk, P0.okUpto_bad hk hb] at h; cases h
 simp only [P0.okAt, Bool.and_eq_true] at h1
 exact B1.inB_true h1.1
theorem head_size (k o s : Int) (zs : List Int) (h0 : 0 ≤ s) (h1 : s ≤ 65535) : (head k o s zs).size = 4 + zs.length := by
 rw [head, ByteArray.size_append, ByteArray.size_append, two_size, pair_size s h0 h1, pg_size]
theorem putI_size (k o s : Int) (zs : List Int) : (putI k o s zs).size ≤ 16 := by
 unfold putI
 split
 ·rename_i h
  obtain ⟨_, _, hs, hl, _⟩ := ok_bounds h
  rw [ByteArray.size_append, head_size _ _ _ _ (by omega) (by omega), B4.nulls_size]
  omega
 ·exact Nat.zero_le _
end Go.Proofs.YtpkmeknniajahaaGreatDoor.R0
namespace Go.Proofs.YtpkmeknniajahaaGreatDoor.B6
open Go.ChangeShapes Go.WideShapes Go.ChangeAt Go.RowKit
def pairAt (s : ByteArray) (i : Int) : Int := if h : 0 ≤ i ∧ i + 1 < s.size then (s[i.toNat]'(by omega)).toNat + 256 * (s[(i + 1).toNat]'(by omega)).toNat else 0
theorem spec_PairAt (s : ByteArray) (i : Int) (w : World) (hs : s.size ≤ 281474976710656) :
  Calls Tryz.prog 93 #[.string s, .int .i64 i] w fun e w' => e = .returned (.int .i64 (pairAt s i)) ∧ ∃ n, w' = w.drewN n := by
 by_cases h1 : i < 0
 ·have e : pairAt s i = 0 := by rw [pairAt, dif_neg (by omega)]
  rw [e]
  go_enter Tryz.func93, Tryz.ntmps93
  go_wp2
  go_ret
  exact ⟨rfl, 0, rfl⟩
 ·by_cases h2 : (s.size : Int) - 2 < i
  ·have e : pairAt s i = 0 := by rw [pairAt, dif_neg (by omega)]
   rw [e]
   go_enter Tryz.func93, Tryz.ntmps93
   go_wp2
   go_ret
   exact ⟨rfl, 0, rfl⟩
  ·have e : pairAt s i = (s[i.toNat]'(by omega)).toNat + 256 * (s[(i + 1).toNat]'(by omega)).toNat := by rw [pairAt, dif_pos (by omega)]
   rw [e]
   have h3 : i < (s.size : Int) := by omega
   have h4 : i + 1 < (s.size : Int) := by omega
   have h6 : 0 ≤ i := by omega
   have h7 : 0 ≤ i + 1 := by omega
   have b1 := (s[i.toNat]'(by omega)).toNat_lt
   have b2 := (s[(i + 1).toNat]'(by omega)).toNat_lt
   go_enter Tryz.func93, Tryz.ntmps93
   go_wp2
   go_quiet (fail)
   go_wp2
   go_ret
   exact ⟨rfl, _, rfl⟩
theorem impl_PairAt (s : ByteArray) (i : Int) (w : World) (hs : s.size ≤ 281474976710656) :
  Calls Tryz.prog 135 #[.string s, .int .i64 i] w fun e w' => e = .returned (.int .i64 (pairAt s i)) ∧ ∃ n, w' = w.drewN n := by
 have hs' : s.size ≤ maxLen := by unfold maxLen; omega
 by_cases h : B2.lies s.size i 2 = true
 ·obtain ⟨h1, h2, h5⟩ := B2.lies_true h
  have e : pairAt s i = (s[i.toNat]'(by omega)).toNat + (s[(i + 1).toNat]'(by omega)).toNat * 256 := by rw [pairAt, dif_pos (by omega), Int.mul_comm]
  rw [e]
  have h3 : i < (s.size : Int) := by omega
  have h4 : i + 1 < (s.size : Int) := by omega
  have h6 : 0 ≤ i := by omega
  have h7 : 0 ≤ i + 1 := by omega
  have b1 := (s[i.toNat]'(by omega)).toNat_lt
  have b2 := (s[(i + 1).toNat]'(by omega)).toNat_lt
  go_enter Tryz.func135, Tryz.ntmps135
  go_wp2_with (go_at_call 65; refine (B2.liesIn_any _ _ _ _ hs').mono ?_; rintro e w' ⟨rfl, rfl⟩)
  go_quiet (fail)
  go_wp2
  go_ret
  exact ⟨rfl, _, rfl⟩
 ·have h' : B2.lies s.size i 2 = false := by simpa using h
  have e : pairAt s i = 0 := by rw [pairAt, dif_neg (fun h9 => B2.lies_false h' (by omega))]
  rw [e]
  go_enter Tryz.func135, Tryz.ntmps135
  go_wp2_with (go_at_call 65; refine (B2.liesIn_any _ _ _ _ hs').mono ?_; rintro e w' ⟨rfl, rfl⟩)
  go_ret
  exact ⟨rfl, 0, rfl⟩
end Go.Proofs.YtpkmeknniajahaaGreatDoor.B6
namespace Go.Proofs.YtpkmeknniajahaaGreatDoor.G0
open Go
def cnt (s : ByteArray) : Nat := min (P0.need (B6.pairAt s 2)).toNat 12
def pgs (s : ByteArray) (k : Nat) : List Int := (List.range k).map fun (j : Nat) => B1.byteAt s (4 + (j : Int))
theorem pgs_length (s : ByteArray) (k : Nat) : (pgs s k).length = k := by simp [pgs]
theorem pgs_succ (s : ByteArray) (k : Nat) : pgs s k ++ [B1.byteAt s (4 + (k : Int))] = pgs s (k + 1) := by simp [pgs, List.range_succ]
def txt (s : ByteArray) : ByteArray := R0.putI (B1.byteAt s 0) (B1.byteAt s 1) (B6.pairAt s 2) (pgs s (cnt s))
def isI (s : ByteArray) : Bool := decide (s.size = 16) && ((txt s).toList == s.toList)
def gK (s : ByteArray) : Int := if isI s then B1.byteAt s 0 else 0
def gO (s : ByteArray) : Int := if isI s then B1.byteAt s 1 else 0
def gS (s : ByteArray) : Int := if isI s then B6.pairAt s 2 else 0
def gZ (s : ByteArray) : List Int := if isI s then pgs s (cnt s) else []
theorem pairAt_lt (s : ByteArray) (i : Int) : 0 ≤ B6.pairAt s i ∧ B6.pairAt s i ≤ 65535 := by
 unfold B6.pairAt
 split
 ·rename_i h
  have h1 := (s[i.toNat]'(by omega)).toNat_lt
  have h2 := (s[(i + 1).toNat]'(by omega)).toNat_lt
  omega
 ·omega
theorem need_nonneg {x : Int} (h : 0 ≤ x) : 0 ≤ P0.need x := by unfold P0.need; omega
theorem cnt_le (s : ByteArray) : cnt s ≤ 12 := Nat.min_le_right _ _
theorem cnt_lt (s : ByteArray) (k : Nat) : k < cnt s ↔ (k : Int) < P0.need (B6.pairAt s 2) ∧ k < 12 := by
 have := need_nonneg (pairAt_lt s 2).1
 unfold cnt
 omega
theorem isI_ok {s : ByteArray} (h : isI s = true) : s.size = 16 ∧ (txt s).toList = s.toList ∧ I0.ok (B1.byteAt s 0) (B1.byteAt s 1) (B6.pairAt s 2) (pgs s (cnt s)) = true := by
 simp only [isI, Bool.and_eq_true, decide_eq_true_eq, beq_iff_eq] at h
 refine ⟨h.1, h.2, ?_⟩
 cases hok : I0.ok (B1.byteAt s 0) (B1.byteAt s 1) (B6.pairAt s 2) (pgs s (cnt s)) with
 | true => rfl
 | false =>
  have h2 := h.2
  rw [txt, R0.putI, hok, if_neg (by decide)] at h2
  have h3 := congrArg List.length h2
  rw [Lib.toList_data, Lib.toList_data, ← Lib.size_eq, ← Lib.size_eq] at h3
  rw [h.1] at h3
  exact absurd h3 (by decide)
theorem isI_of {s : ByteArray} (h16 : s.size = 16) (h : ((txt s).toList == s.toList) = true) : isI s = true := by rw [isI, decide_eq_true h16, h]; rfl
theorem isI_not {s : ByteArray} (h : ((txt s).toList == s.toList) = false) : isI s = false := by rw [isI, h, Bool.and_false]
theorem isI_no {s : ByteArray} (h : ¬ s.size = 16) : isI s = false := by rw [isI, decide_eq_false h, Bool.false_and]
theorem isI_bad {s : ByteArray} (h : I0.ok (B1.byteAt s 0) (B1.byteAt s 1) (B6.pairAt s 2) (pgs s (cnt s)) = false) : isI s = false := by
 cases hi : isI s with
 | false => rfl
 | true => rw [(isI_ok hi).2.2] at h; cases h
theorem g_no {s : ByteArray} (h : isI s = false) : gK s = 0 ∧ gO s = 0 ∧ gS s = 0 ∧ gZ s = [] := by simp [gK, gO, gS, gZ, h]
theorem g_yes {s : ByteArray} (h : isI s = true) : gK s = B1.byteAt s 0 ∧ gO s = B1.byteAt s 1 ∧ gS s = B6.pairAt s 2 ∧ gZ s = pgs s (cnt s) := by simp [gK, gO, gS, gZ, h]
end Go.Proofs.YtpkmeknniajahaaGreatDoor.G0
namespace Go.Proofs.YtpkmeknniajahaaGreatDoor.L1
open Go.ChangeShapes Go.WideShapes Go.ChangeAt Go.RowKit
def recAt (i : Int) : Int := if B1.inB i 0 7 then 32 + i * 16 else -1
theorem spec_RecAt (i : Int) (w : World) :
  Calls Tryz.prog 41 #[.int .i64 i] w fun e w' => e = .returned (.int .i64 (recAt i)) ∧ w' = w := by
 by_cases h : B1.inB i 0 7 = true
 ·have e : recAt i = 32 + i * 16 := by rw [recAt, if_pos h]
  obtain ⟨h1, h2⟩ := B1.inB_true h
  rw [e]
  go_enter Tryz.func41, Tryz.ntmps41
  go_wp2_with (go_at_call 70; refine (B1.l01In_any _ _ _ _).mono ?_; rintro e w' ⟨rfl, rfl⟩)
  go_ret
  exact ⟨rfl, rfl⟩
 ·have h' : B1.inB i 0 7 = false := by simpa using h
  have e : recAt i = -1 := by rw [recAt, if_neg h]
  rw [e]
  go_enter Tryz.func41, Tryz.ntmps41
  go_wp2_with (go_at_call 70; refine (B1.l01In_any _ _ _ _).mono ?_; rintro e w' ⟨rfl, rfl⟩)
  go_ret
  exact ⟨rfl, rfl⟩
theorem impl_RecAt (i : Int) (w : World) :
  Calls Tryz.prog 32 #[.int .i64 i] w fun e w' => e = .returned (.int .i64 (recAt i)) ∧ w' = w := by
 by_cases h1 : i < 0
 ·have e : recAt i = -1 := by rw [recAt, show B1.inB i 0 7 = false from decide_eq_false (by omega)]; rfl
  rw [e]
  go_enter Tryz.func32, Tryz.ntmps32
  go_wp2
  go_ret
  exact ⟨rfl, rfl⟩
 ·by_cases h2 : 8 ≤ i
  ·have e : recAt i = -1 := by rw [recAt, show B1.inB i 0 7 = false from decide_eq_false (by omega)]; rfl
   rw [e]
   go_enter Tryz.func32, Tryz.ntmps32
   go_wp2
   go_ret
   exact ⟨rfl, rfl⟩
  ·have e : recAt i = 32 + i * 16 := by rw [recAt, show B1.inB i 0 7 = true from decide_eq_true (by omega)]; rfl
   rw [e]
   go_enter Tryz.func32, Tryz.ntmps32
   go_wp2
   go_ret
   exact ⟨rfl, rfl⟩
end Go.Proofs.YtpkmeknniajahaaGreatDoor.L1
namespace Go.Proofs.YtpkmeknniajahaaGreatDoor.O0
open Go
def recd (mem : ByteArray) (i : Int) : ByteArray := B2.part mem (L1.recAt i) 16
def joined (mem : ByteArray) (zs : List Int) : Nat → ByteArray
 | 0 => ⟨#[]⟩
 | k + 1 => joined mem zs k ++ B2.part mem (zs.getD k 0 * 32) 32
theorem page_size {mem : ByteArray} (hm : mem.size = 768) {z : Int} (h0 : 5 ≤ z) (h1 : z ≤ 23) : (B2.part mem (z * 32) 32).size = 32 := by
 rw [B2.part, show B2.lies mem.size (z * 32) 32 = true from decide_eq_true (by omega), if_pos rfl, ByteArray.size_extract]
 omega
theorem joined_size {mem : ByteArray} (hm : mem.size = 768) {zs : List Int} (hp : P0.pagesOk zs = true) : ∀ k, k ≤ zs.length → (joined mem zs k).size = 32 * k
 | 0, _ => rfl
 | k + 1, h => by
  have hz := R0.pages_bounds hp (k := k) (by omega)
  rw [joined, ByteArray.size_append, joined_size hm hp k (by omega), page_size hm hz.1 hz.2]
  omega
def isL (mem : ByteArray) (i : Int) : Bool := decide (mem.size = 768) && (G0.isI (recd mem i) && !decide (B1.byteAt (recd mem i) 0 = 0))
def lK (mem : ByteArray) (i : Int) : Int := if isL mem i then G0.gK (recd mem i) else 0
def lO (mem : ByteArray) (i : Int) : Int := if isL mem i then G0.gO (recd mem i) else 0
def lS (mem : ByteArray) (i : Int) : Int := if isL mem i then G0.gS (recd mem i) else 0
def lZ (mem : ByteArray) (i : Int) : List Int := if isL mem i then G0.gZ (recd mem i) else []
def lD (mem : ByteArray) (i : Int) : ByteArray := if isL mem i then (joined mem (G0.gZ (recd mem i)) (G0.gZ (recd mem i)).length).extract 0 (G0.gS (recd mem i)).toNat else ⟨#[]⟩
theorem l_no {mem : ByteArray} {i : Int} (h : isL mem i = false) : lK mem i = 0 ∧ lO mem i = 0 ∧ lS mem i = 0 ∧ lZ mem i = [] ∧ lD mem i = ⟨#[]⟩ := by simp [lK, lO, lS, lZ, lD, h]
theorem l_yes {mem : ByteArray} {i : Int} (h : isL mem i = true) : lK mem i = G0.gK (recd mem i) ∧ lO mem i = G0.gO (recd mem i) ∧ lS mem i = G0.gS (recd mem i) ∧ lZ mem i = G0.gZ (recd mem i) ∧ lD mem i = (joined mem (G0.gZ (recd mem i)) (G0.gZ (recd mem i)).length).extract 0 (G0.gS (recd mem i)).toNat := by simp [lK, lO, lS, lZ, lD, h]
theorem isL_of {mem : ByteArray} {i : Int} (h1 : mem.size = 768) (h2 : G0.isI (recd mem i) = true) (h3 : ¬ B1.byteAt (recd mem i) 0 = 0) : isL mem i = true := by rw [isL, decide_eq_true h1, h2, decide_eq_false h3]; rfl
theorem recd_size (mem : ByteArray) (i : Int) (h : mem.size ≤ 281474976710656) : (recd mem i).size ≤ 281474976710656 := by
 have := B2.part_size mem (L1.recAt i) 16
 unfold recd
 omega
theorem got {s : ByteArray} (h : G0.isI s = true) : (0 ≤ G0.gS s ∧ G0.gS s ≤ 192) ∧ (G0.gZ s).length ≤ 6 ∧ G0.gS s ≤ 32 * ((G0.gZ s).length : Int) ∧ P0.pagesOk (G0.gZ s) = true ∧ (0 ≤ G0.gK s ∧ G0.gK s ≤ 2) := by
 have hb := R0.ok_bounds (G0.isI_ok h).2.2
 obtain ⟨e1, e2, e3, e4⟩ := G0.g_yes h
 rw [e1, e3, e4]
 refine ⟨hb.2.2.1, hb.2.2.2.1, ?_, hb.2.2.2.2.2, hb.1⟩
 rw [hb.2.2.2.2.1]
 unfold P0.need
 omega
end Go.Proofs.YtpkmeknniajahaaGreatDoor.O0
namespace Go.Proofs.YtpkmeknniajahaaGreatDoor.N0
open Go
structure Ln where
 ino : Int
 cl : Int
 un : Int
 rc : ByteArray
 pg : List Int
 sav : ByteArray
 po : List Int
 fr : List Int
def to (f : Nat → Bool) (k : Nat) : Bool := (List.range k).all f
theorem to_succ (f : Nat → Bool) (k : Nat) : to f (k + 1) = (to f k && f k) := by simp [to, List.range_succ]
theorem to_iff {f : Nat → Bool} {k : Nat} : to f k = true ↔ ∀ i, i < k → f i = true := by simp [to, List.all_eq_true]
theorem to_bad {f : Nat → Bool} {k n : Nat} (hk : k < n) (h : f k = false) : to f n = false := by
 cases e : to f n with
 | false => rfl
 | true => rw [to_iff.1 e k hk] at h; cases h
theorem to_step {f : Nat → Bool} {k : Nat} (h : to f k = true) (hf : f k = true) : to f (k + 1) = true := by rw [to_succ, h, hf]; rfl
theorem getD_mem {zs : List Int} {i : Nat} (h : i < zs.length) : zs.getD i 0 ∈ zs := by
 rw [P0.getD_get _ _ h]
 exact List.getElem_mem h
theorem mem_getD {zs : List Int} {z : Int} (h : z ∈ zs) : ∃ i, i < zs.length ∧ zs.getD i 0 = z := by
 obtain ⟨i, hi, e⟩ := List.mem_iff_getElem.1 h
 exact ⟨i, hi, by rw [P0.getD_get _ _ hi]; exact e⟩
theorem has_iff {l : List Int} {x : Int} : P0.has l x = true ↔ x ∈ l := by unfold P0.has; exact List.contains_iff_mem
theorem has_not {l : List Int} {x : Int} : P0.has l x = false ↔ ¬ x ∈ l := by
 rw [← has_iff]
 cases P0.has l x <;> simp
theorem inB_iff {z a b : Int} : B1.inB z a b = true ↔ a ≤ z ∧ z ≤ b := by unfold B1.inB; simp
theorem pagesOk_iff {zs : List Int} : P0.pagesOk zs = true ↔ (∀ z ∈ zs, 5 ≤ z ∧ z ≤ 23) ∧ zs.Nodup := by
 have h0 : P0.pagesOk zs = to (P0.okAt zs) zs.length := rfl
 rw [h0, to_iff]
 constructor
 ·intro h
  refine ⟨fun z hz => ?_, ?_⟩
  ·obtain ⟨i, hi, rfl⟩ := mem_getD hz
   have := h i hi
   simp only [P0.okAt, Bool.and_eq_true] at this
   exact inB_iff.1 this.1
  ·rw [List.Nodup, List.pairwise_iff_getElem]
   intro i j hi hj hij e
   have := h j hj
   simp only [P0.okAt, Bool.and_eq_true, Bool.not_eq_true'] at this
   have h2 := P0.contains_of (zs := zs) hij (Nat.le_of_lt hj)
   rw [P0.getD_get _ _ hi, e, ← P0.getD_get _ _ hj, this.2] at h2
   cases h2
 ·rintro ⟨h1, h2⟩ i hi
  simp only [P0.okAt, Bool.and_eq_true, Bool.not_eq_true']
  refine ⟨inB_iff.2 (h1 _ (getD_mem hi)), has_not.2 fun hm => ?_⟩
  obtain ⟨j, hj, e⟩ := List.mem_iff_getElem.1 hm
  have hj' : j < i := by simp at hj; omega
  rw [List.getElem_take, P0.getD_get _ _ hi] at e
  rw [List.Nodup, List.pairwise_iff_getElem] at h2
  exact h2 j i (by omega) hi hj' e
end Go.Proofs.YtpkmeknniajahaaGreatDoor.N0
namespace Go.Proofs.YtpkmeknniajahaaGreatDoor.N1
open Go.ChangeShapes Go.WideShapes Go.ChangeAt Go.RowKit Go.Joins Go.Deep
open N0 (Ln)
structure Sl where
 a1 : Option Addr
 c1 : Nat
 a2 : Option Addr
 c2 : Nat
 a3 : Option Addr
 c3 : Nat
abbrev vals (d : Ln) (s : Sl) : List Value := [.int .i64 d.ino, .int .i64 d.cl, .int .i64 d.un, .string d.rc, .slice s.a1 d.pg.length s.c1, .string d.sav, .slice s.a2 d.po.length s.c2, .slice s.a3 d.fr.length s.c3]
structure Lists (W : World) (d : Ln) (s : Sl) : Prop where
 r1 : P0.Row W s.a1 d.pg
 r2 : P0.Row W s.a2 d.po
 r3 : P0.Row W s.a3 d.fr
variable {W W' : World} {d : Ln} {s : Sl}
theorem Lists.below (h : Lists W d s) (hb : Below W.heap.size W W') : Lists W' d s := ⟨h.r1.below hb, h.r2.below hb, h.r3.below hb⟩
theorem Lists.alloc (h : Lists W d s) (o : Obj) : Lists (W.alloc o) d s := ⟨h.r1.alloc o, h.r2.alloc o, h.r3.alloc o⟩
theorem Lists.drewN (h : Lists W d s) (n : Nat) : Lists (W.drewN n) d s := ⟨h.r1, h.r2, h.r3⟩
theorem Lists.drew (h : Lists W d s) : Lists W.drew d s := ⟨h.r1, h.r2, h.r3⟩
section Args
variable {H : Type} {enc : TypeId × Value → H} {w : World}
end Args
structure LB (B : Nat) (d : Ln) (s : Sl) (W : World) : Prop where
 b : K0.Blk B (vals d s) W
variable {B : Nat}
theorem LB.c0 (h : LB B d s W) : W.cell? ⟨B, 0, none⟩ = some (.int .i64 d.ino) := h.b.cell 0 (by simp)
theorem LB.c1 (h : LB B d s W) : W.cell? ⟨B, 1, none⟩ = some (.int .i64 d.cl) := h.b.cell 1 (by simp)
theorem LB.c2 (h : LB B d s W) : W.cell? ⟨B, 2, none⟩ = some (.int .i64 d.un) := h.b.cell 2 (by simp)
theorem LB.c3 (h : LB B d s W) : W.cell? ⟨B, 3, none⟩ = some (.string d.rc) := h.b.cell 3 (by simp)
theorem LB.c4 (h : LB B d s W) : W.cell? ⟨B, 4, none⟩ = some (.slice s.a1 d.pg.length s.c1) := h.b.cell 4 (by simp)
theorem LB.below (h : LB B d s W) (hb : Below W.heap.size W W') : LB B d s W' := ⟨h.b.below hb⟩
end Go.Proofs.YtpkmeknniajahaaGreatDoor.N1
