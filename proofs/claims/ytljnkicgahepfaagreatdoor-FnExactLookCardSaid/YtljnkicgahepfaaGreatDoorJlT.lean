/- Joined texts: plain facts and contracts. -/
import Derived.Test.YtljnkicgahepfaaGreatDoorJlS
import Derived.Test.YtljnkicgahepfaaGreatDoorJlI
import Derived.Deep.MidRow
import Derived.Sort.Grow
import Derived.Test.YtljnkicgahepfaaGreatDoorJlQ
import Derived.Test.YtljnkicgahepfaaGreatDoorJlP
import Derived.LoopN
set_option linter.unusedVariables false
set_option linter.unusedSimpArgs false
set_option maxRecDepth 10000
namespace Go.Proofs.YtljnkicgahepfaaGreatDoor.TW
open Go.ChangeShapes Go.WideShapes Go.ChangeAt Go.RowKit
open Go.Sort (Holds putRow grow)
variable {B : Nat} {N : Nat → Nd} {F : Nat → Nat} {P : Nat → ByteArray} {w W W' : World} {E : Nat → List T0.Ent}
open J0 (IBuf Own)
open I2 (ints)
theorem holds_of {g : Nat} {zs : List Int} (h : K0.Blk g (ints zs) W) : Holds (Value.int .i64) W g 0 zs.toArray := by
 intro j hj
 have hj' : j < zs.length := by simpa using hj
 have h1 := h.cell j (by simpa using hj')
 have h2 := h.free j (by simpa using hj')
 refine ⟨?_, by simpa using h2⟩
 rw [Nat.zero_add, h1]
 simp [hj']
theorem blk_of {g : Nat} {zs : List Int} (hg : g < W.heap.size) (h : Holds (Value.int .i64) W g 0 zs.toArray) : K0.Blk g (ints zs) W := by
 refine ⟨fun j hj => ?_, fun j hj => ?_, hg⟩
 ·have hj' : j < zs.length := by simpa using hj
  have := (h j (by simpa using hj')).1
  rw [Nat.zero_add] at this
  rw [this]
  simp [hj']
 ·have hj' : j < zs.length := by simpa using hj
  have := (h j (by simpa using hj')).2
  rwa [Nat.zero_add] at this
theorem sorted_blk {g n : Nat} {zs ys : List Int} {os : Array Obj} (h : K0.Blk g (ints zs) W) (hl : ys.length = zs.length) : K0.Blk g (ints ys) (grow (putRow (Value.int .i64) (Sort.ahead W n) g 0 ys.toArray) os) := by
 have h0 : Holds (Value.int .i64) (Sort.ahead W n) g 0 zs.toArray := Go.Sort.holds_ahead _ _ _ _ _ _ (holds_of h)
 have hlt : g < (putRow (Value.int .i64) (Sort.ahead W n) g 0 ys.toArray).heap.size := by rw [Go.Sort.size_putRow]; exact h.lt
 refine blk_of (by rw [Go.Sort.size_grow]; omega) (Go.Sort.holds_grow _ _ _ _ _ _ hlt (Go.Sort.holds_putRow _ _ _ _ _ _ h0 (by simpa using hl)))
theorem sorted_below {g n base : Nat} {ys : List Int} {os : Array Obj} (hb : base ≤ g) (hg : base ≤ W.heap.size) : Below base W (grow (putRow (Value.int .i64) (Sort.ahead W n) g 0 ys.toArray) os) := by
 refine ⟨rfl, rfl, rfl, ?_, fun k hk => ?_⟩
 ·rw [Go.Sort.size_grow, Go.Sort.size_putRow]
  exact Nat.le_add_right _ _
 ·rw [Go.Sort.heap_grow_old _ _ (by rw [Go.Sort.size_putRow]; exact Nat.lt_of_lt_of_le hk hg)]
  show (W.heap.modify g _)[k]? = W.heap[k]?
  rw [Array.getElem?_modify]
  rw [if_neg (by omega)]
def srt (zs : List Int) : List Int := zs.mergeSort fun x y => decide (x ≤ y)
theorem srt_perm (zs : List Int) : (srt zs).Perm zs := List.mergeSort_perm zs _
theorem srt_length (zs : List Int) : (srt zs).length = zs.length := (srt_perm zs).length_eq
theorem srt_sorted (zs : List Int) : (srt zs).Pairwise (· ≤ ·) := by
 have := List.pairwise_mergeSort (le := fun x y : Int => decide (x ≤ y)) (fun a b c h1 h2 => by simp only [decide_eq_true_eq] at h1 h2 ⊢; omega) (fun a b => by simp only [Bool.or_eq_true, decide_eq_true_eq]; omega) zs
 exact this.imp fun h => by simpa using h
def cat (Z : Nat → List Int) : Nat → List Int
 | 0 => []
 | i + 1 => cat Z i ++ Z i
theorem cat_len {Z : Nat → List Int} (h : ∀ i, (Z i).length ≤ 12) : ∀ i, (cat Z i).length ≤ 12 * i
 | 0 => Nat.le_refl _
 | i + 1 => by
  have := cat_len h i
  have := h i
  rw [cat, List.length_append]
  omega
def nds (N : Nat → Nd) : Nat → List Value
 | 0 => []
 | i + 1 => nds N i ++ (N i).vals
theorem nds_length (N : Nat → Nd) : ∀ i, (nds N i).length = i * 6
 | 0 => rfl
 | i + 1 => by rw [nds, List.length_append, nds_length N i, Nd.vals_length]; omega
theorem nds_get (N : Nat → Nd) : ∀ n i, i < n → ((nds N n).drop (i * 6)).take 6 = (N i).vals
 | 0, i, h => by omega
 | n + 1, i, h => by
  rw [nds]
  by_cases e : i = n
  ·subst e
   rw [List.drop_append_of_le_length (by rw [nds_length]; exact Nat.le_refl _), List.drop_eq_nil_of_le (by rw [nds_length]; exact Nat.le_refl _), List.nil_append]
   exact List.take_of_length_le (Nat.le_of_eq (Nd.vals_length _))
  ·have hl := nds_length N n
   rw [List.drop_append_of_le_length (by omega), List.take_append_of_le_length (by rw [List.length_drop]; omega)]
   exact nds_get N n i (by omega)
theorem nds_at (N : Nat → Nd) (i j : Nat) (hi : i < 8) (hj : j < 6) : (nds N 8)[i * 6 + j]? = (N i).vals[j]? := by
 have := congrArg (fun l : List Value => l[j]?) (nds_get N 8 i hi)
 rw [List.getElem?_take, if_pos hj, List.getElem?_drop] at this
 exact this
theorem Tb.range (h : Tb B N F P W) : W.rangeAt B 0 (nds N 8) := by
 intro j v hv
 have hj : j < 48 := by
  have := (List.getElem?_eq_some_iff.1 hv).1
  rw [nds_length] at this
  exact this
 have e : j = j / 6 * 6 + j % 6 := by omega
 rw [e, nds_at N (j / 6) (j % 6) (by omega) (by omega)] at hv
 rw [Nat.zero_add, e]
 obtain ⟨h1, h2⟩ := List.getElem?_eq_some_iff.1 hv
 rw [h.node (j / 6) (by omega) (j % 6) h1, h2]
theorem infoNodes : (Tryz.prog.info? 156).map (·.size) = some 48 := by kernel_rfl
theorem infoNode : (Tryz.prog.info? 155).map (·.size) = some 6 := by kernel_rfl
theorem run_node (N : Nat → Nd) (i : Nat) (hi : i < 8) (W : World) : (Instr.index 156 (.agg (nds N 8).toArray) (.int .i64 (i : Int))).run Tryz.prog W = .ok (.agg #[.int .i64 (N i).k, .int .i64 (N i).o, .int .i64 (N i).s, .slice (N i).a (N i).n (N i).c, .string (N i).x, .slice (N i).ae (N i).ne (N i).ce]) W := by
 have e1 : (0 : Int) ≤ (i : Int) := by omega
 have e2 : (i : Int) < 8 := by omega
 obtain ⟨q, hq, hs⟩ : ∃ q, Tryz.prog.info? 155 = some q ∧ q.size = 6 := by
  have := infoNode
  cases h : Tryz.prog.info? 155 with
  | none => rw [h] at this; simp at this
  | some q => rw [h] at this; exact ⟨q, rfl, by simpa using this⟩
 have hg := nds_get N 8 i hi
 simp [Instr.index, asIntOf, run_underlying Tryz.underlying156, e1, e2, sizeOf, typeInfo, hq, hs, part]
 rw [if_pos hi, hg]
 rfl
theorem compact_len (zs : List Int) : (Lib.compact zs).length = zs.length ↔ ∀ j, j < zs.length → Lib.keeps zs.toArray j = true := by
 unfold Lib.compact Lib.compactUpTo
 rw [List.length_map]
 constructor
 ·intro h j hj
  have := List.length_filter_eq_length_iff.1 (h.trans (List.length_range (n := zs.length)).symm) j (List.mem_range.2 hj)
  exact this
 ·intro h
  rw [List.filter_eq_self.2 fun j hj => h j (List.mem_range.1 hj), List.length_range]
theorem keeps_iff (zs : List Int) (j : Nat) (hj : j < zs.length) : Lib.keeps zs.toArray j = true ↔ (j = 0 ∨ zs[j] ≠ zs[j - 1]'(by omega)) := by
 have e1 : zs.toArray[j]! = zs[j] := by simp [hj]
 have e2 : zs.toArray[j - 1]! = zs[j - 1]'(by omega) := by
  have : j - 1 < zs.length := by omega
  simp [this]
 unfold Lib.keeps
 rw [e1, e2]
 simp
theorem apart_iff (zs : List Int) : (Lib.compact (srt zs)).length = zs.length ↔ zs.Nodup := by
 rw [← srt_length zs, compact_len, ← (srt_perm zs).nodup_iff]
 have hs := List.pairwise_iff_getElem.1 (srt_sorted zs)
 constructor
 ·intro h
  refine List.pairwise_iff_getElem.2 fun i j hi hj hij => ?_
  have hk := (keeps_iff (srt zs) j hj).1 (h j hj)
  rcases hk with hk | hk
  ·omega
  ·have h1 : (srt zs)[j - 1]'(by omega) ≤ (srt zs)[j] := hs (j - 1) j (by omega) hj (by omega)
   have h2 : (srt zs)[i] ≤ (srt zs)[j - 1]'(by omega) := by
    by_cases e : i = j - 1
    ·subst e
     exact Int.le_refl _
    ·exact hs i (j - 1) hi (by omega) (by omega)
   omega
 ·intro h j hj
  refine (keeps_iff (srt zs) j hj).2 ?_
  by_cases h0 : j = 0
  ·exact Or.inl h0
  ·right
   have := List.pairwise_iff_getElem.1 h (j - 1) j (by omega) hj (by omega)
   exact fun e => this e.symm
theorem append_rows3 {ops : Array Oper} {rest : List Oper} {o : Oper} {A : Act} {Q : Exit → Act → World → Prop} {base g n cap : Nat} {zs : List Int} (hgd : o.guard = none) (sl x : Operand)
  (ho : o.op = .call { callee := .builtin .append, args := #[sl, x], argTypes := #[29, 29] })
  (hbuf : IBuf base w (some ⟨g, 0, none⟩) n cap zs) (ax : Option Addr) (cx : Nat) (xs : List Int) (hs : A.eval sl = .slice (some ⟨g, 0, none⟩) n cap) (hx : A.eval x = .slice ax xs.length cx) (hR : P0.Row w ax xs) (hlen : n + xs.length ≤ 4194304) (hb : base ≤ w.heap.size)
  (h : ∀ g' cap' w', IBuf base w' (some ⟨g', 0, none⟩) (n + xs.length) cap' (zs ++ xs) → Below base w w' → wpList Tryz.prog ops Q rest (A.put o.dst (.slice (some ⟨g', 0, none⟩) (n + xs.length) cap')) w') : wpList Tryz.prog ops Q (o :: rest) A w := by
 obtain ⟨i0, hi, hz0, hz1, hz2⟩ := info_parts I2.info3
 by_cases h0 : xs = []
 ·subst h0
  refine Lib.wpList_append_run _ hgd sl x 29 29 ho _ _ hs hx _ _ (Q1.run_append_none w 29 _ 3 i0 Tryz.underlying29 hi _ n cap hbuf.fits ax cx) ?_
  exact h g cap w (by rw [List.append_nil]; exact hbuf) (Below.refl _ _)
 ·rcases hR with hR | ⟨b, off, rfl, hb2, hc⟩
  ·exact absurd hR h0
  ·have hm : 0 < xs.length := List.length_pos_iff.2 h0
   refine wpList_append_lies _ hgd sl x 29 ho base 3 i0 (.int .i64 0) 1 8 Tryz.underlying29 hi hz0 hz1 hz2 rfl (by omega) _ n _ hs hbuf.2 ⟨b, off, none⟩ xs.length cx (ints xs) hx (by simp) ?_ (Q1.ints_one xs) hm (by unfold maxLen; omega) (by omega) hb _ rfl ?_
   ·intro j u hj
    have hj' : j < xs.length := by
     have := (List.getElem?_eq_some_iff.1 hj).1
     simpa using this
    rw [B0.add_off, hc j hj', P0.getD_get _ _ hj', ← hj]
    simp [hj']
   ·intro g' cap' w' ho' hg' _ _
    refine h g' cap' w' ⟨by rw [hbuf.1]; simp, ?_⟩ ?_
    ·rw [show ints (zs ++ xs) = ints zs ++ ints xs by simp]
     exact ho'
    ·exact F0.below_grown (Below.refl _ _) hg' (J0.own_block hbuf) hb
end Go.Proofs.YtljnkicgahepfaaGreatDoor.TW
namespace Go.Proofs.YtljnkicgahepfaaGreatDoor.TW
open Go.ChangeShapes Go.WideShapes Go.ChangeAt Go.RowKit
open Go.Sort (Holds putRow grow)
variable {B : Nat} {N : Nat → Nd} {F : Nat → Nat} {P : Nat → ByteArray} {w W W' : World} {Z : Nat → List Int}
open J0 (IBuf Own)
open I2 (ints)
structure Ps (N : Nat → Nd) (Z : Nat → List Int) (W : World) : Prop where
 n : ∀ i, i < 8 → (N i).n = (Z i).length
 row : ∀ i, i < 8 → P0.Row W (N i).a (Z i)
 few : ∀ i, (Z i).length ≤ 12
theorem Ps.below (h : Ps N Z W) (hb : Below W.heap.size W W') : Ps N Z W' := ⟨h.n, fun i hi => (h.row i hi).below hb, h.few⟩
set_option maxHeartbeats 2000000 in
theorem pages (w : World) (hT : Tb B N F P w) (hZ : Ps N Z w) :
  Calls Tryz.prog 123 #[.pointer (some ⟨B, 0, none⟩)] w fun e w' => ∃ g c, e = .returned (.slice (some ⟨g, 0, none⟩) (cat Z 8).length c) ∧ (cat Z 8).length ≤ c ∧ w.heap.size ≤ g ∧ K0.Blk g (ints (srt (cat Z 8))) w' ∧ Below w.heap.size w w' := by
 have hr := World.rangeAt_alloc hT.range (.cells #[] 3)
 have hn48 : (nds N 8).length = 48 := nds_length N 8
 have hix := fun i hi W => run_node N i hi W
 obtain ⟨C, hC⟩ : ∃ C, (nds N 8).toArray = C := ⟨_, rfl⟩
 have HC : Hid ((nds N 8).toArray = C) := hC
 rw [hC] at hix
 have HX : Hid (∀ i : Nat, i < 8 → ∀ W, (Instr.index 156 (.agg C) (.int .i64 (i : Int))).run Tryz.prog W = .ok (.agg #[.int .i64 (N i).k, .int .i64 (N i).o, .int .i64 (N i).s, .slice (N i).a (N i).n (N i).c, .string (N i).x, .slice (N i).ae (N i).ne (N i).ce]) W) := hix
 have b0 := J0.ibuf_made (base := w.heap.size) w (Nat.le_refl _)
 have l0 := K0.below_new w (.cells #[] 3)
 have hlen := cat_len hZ.few
 clear hC hix
 go_enter Tryz.func123, Tryz.ntmps123
 go_wp2_with (refine wpList_load_mid rfl 156 (.tmp 9) rfl B 0 rfl _ _ hr Tryz.underlying156 rfl (by rw [infoNodes, hn48]) ?_; rw [HC.out])
 clear hr
 go_loopw [3, 11] (fun v i w' => ∃ (k n c g : Nat), k ≤ 8 ∧ i = .int .i64 k ∧ v = .slice (some ⟨g, 0, none⟩) n c ∧ IBuf w.heap.size w' (some ⟨g, 0, none⟩) n c (cat Z k) ∧ Below w.heap.size w w') (fun _ i _ => 8 - (intOf i).toNat)
 case atStart => exact ⟨0, 0, 0, _, Nat.zero_le _, rfl, rfl, b0, l0⟩
 case round =>
  obtain ⟨k, n, c, g, hk, rfl, rfl, hbuf, hbel⟩ := hrel
  clear b0 l0
  by_cases hlt : k < 8
  ·have hx := HX.out k hlt
   have hpn := hZ.n k hlt
   have hrow := (hZ.row k hlt).below (hbel)
   have e1 : (0 : Int) ≤ (k : Int) := by omega
   have e2 : (k : Int) < 8 := by omega
   have hnl : n ≤ 96 := by
    have := hlen k
    rw [hbuf.1]
    omega
   have hfew := hZ.few k
   have HS : Hid (cat Z k ++ Z k = cat Z (k + 1)) := rfl
   obtain ⟨zk, hzk⟩ : ∃ zk, Z k = zk := ⟨_, rfl⟩
   rw [hzk] at hpn hrow hfew HS
   obtain ⟨d, hd⟩ : ∃ d, N k = d := ⟨_, rfl⟩
   rw [hd] at hx hpn hrow
   rw [hpn] at hx
   clear hzk hd hpn
   have nb := K0.blk_new d.vals wr 155
   have nl := K0.below_new wr (.cells #[.int .i64 d.k, .int .i64 d.o, .int .i64 d.s, .slice d.a zk.length d.c, .string d.x, .slice d.ae d.ne d.ce] 155)
   have hbuf1 := hbuf.below nl
   have hrow1 := hrow.below nl
   have hbel1 := hbel.trans (nl.mono hbel.size)
   have c3 : (wr.alloc (.cells #[.int .i64 d.k, .int .i64 d.o, .int .i64 d.s, .slice d.a zk.length d.c, .string d.x, .slice d.ae d.ne d.ce] 155)).cell? ⟨wr.heap.size, 3, none⟩ = some (.slice d.a zk.length d.c) := (K0.blk_new [.int .i64 d.k, .int .i64 d.o, .int .i64 d.s, .slice d.a zk.length d.c, .string d.x, .slice d.ae d.ne d.ce] wr 155).cell 3 (by simp)
   go_wp2_with (at_builtin; refine append_rows3 rfl (.tmp 14) (.tmp 17) rfl hbuf1 _ _ zk (by rfl) (by rfl) hrow1 (by omega) hbel1.size ?_; intro g2 c2 w2 bf2 bl2)
   go_roundw
   case rel => exact ⟨k + 1, n + zk.length, c2, g2, by omega, by go_num, rfl, by rw [← HS.out]; exact bf2, hbel1.trans bl2⟩
   case measure => simp [intOf]; omega
  ·obtain rfl : k = 8 := by omega
   have hn : n = (cat Z 8).length := hbuf.1
   have hc8 := hlen 8
   subst hn
   have hlt' := hbuf.2.lt g rfl
   have hH : K0.Blk g (ints (cat Z 8)) wr := by
    rcases hbuf.own with h0 | ⟨g', e, _, hk'⟩
    ·rw [h0]
     exact ⟨fun j hj => by simp at hj, fun j hj => by simp at hj, hlt'.2⟩
    ·cases e
     exact hk'
   have hsort := Tryz.slices_Sort_int g 0 c (cat Z 8) wr (holds_of hH) hlt'.2 (by omega)
   have HB : Hid (K0.Blk g (ints (cat Z 8)) wr ∧ IBuf w.heap.size wr (some ⟨g, 0, none⟩) (cat Z 8).length c (cat Z 8)) := ⟨hH, hbuf⟩
   clear hbuf hH hZ hT HX HC
   go_wp2_with (go_at_call 129; refine hsort.mono ?_; rintro e w7 ⟨rfl, m7, os7, hw7⟩)
   go_ret
   subst hw7
   exact ⟨g, c, rfl, HB.out.2.fits, hlt'.1, sorted_blk HB.out.1 (srt_length _), hbel.trans (sorted_below hlt'.1 hbel.size)⟩
end Go.Proofs.YtljnkicgahepfaaGreatDoor.TW
namespace Go.Proofs.YtljnkicgahepfaaGreatDoor.KP
open Go.ChangeShapes Go.WideShapes Go.ChangeAt Go.RowKit
open P1 (ret_bool quiet_bool)
open J0 (IBuf Own)
open I2 (ints)
open N0 (Ln)
open N1 (Sl)
open Z0 (dat Kp Lns kval)
open KO (gath Out gath_len)
theorem noneAmong (a1 a2 : Option Addr) (c1 c2 : Nat) (zs al : List Int) (w : World) (h1 : zs.length ≤ 281474976710656) (h2 : al.length ≤ 281474976710656) (R1 : P0.Row w a1 zs) (R2 : P0.Row w a2 al) :
  Calls Tryz.prog 127 #[.slice a1 zs.length c1, .slice a2 al.length c2] w fun e w' => e = .returned (.bool (N0.apart al zs)) ∧ w' = w := by
 have hH : Hid (∀ x, Calls Tryz.prog 178 #[.slice a2 al.length c2, .int .i64 x] w fun e w' => e = .returned (.bool (P0.has al x)) ∧ w' = w) := fun x => N2.containsRow a2 c2 al x w h2 R2
 clear R2
 go_enter Tryz.func127, Tryz.ntmps127
 go_wp2
 go_loop [9] (fun i => ∃ k : Nat, k ≤ zs.length ∧ N0.to (N0.apAt al zs) k = true ∧ i = .int .i64 k) (fun i => zs.length - (intOf i).toNat)
 case atStart => exact ⟨0, Nat.zero_le _, rfl, rfl⟩
 case round =>
  obtain ⟨k, hk, hok, rfl⟩ := hrel
  by_cases hlt : k < zs.length
  ·obtain ⟨b, off, hab, _, hc⟩ := R1.get hlt
   have x1 := hc k hlt
   have hat : N0.apAt al zs k = !(P0.has al (zs.getD k 0)) := rfl
   obtain ⟨z, ez⟩ : ∃ z, zs.getD k 0 = z := ⟨_, rfl⟩
   rw [ez] at x1 hat
   rw [hab]
   have e1 : (0 : Int) ≤ (k : Int) := by omega
   have e2 : (k : Int) < (zs.length : Int) := by omega
   cases h : P0.has al z with
   | false =>
    have HO : Hid (N0.to (N0.apAt al zs) (k + 1) = true) := N0.to_step hok (by rw [hat, h]; rfl)
    clear hat hok ez hc
    go_wp2_with (go_at_call 178; refine (hH.out _).mono ?_; rintro e w' ⟨rfl, rfl⟩)
    go_round
    case rel => exact ⟨k + 1, by omega, HO.out, by go_num⟩
    case measure => simp [intOf]; omega
   | true =>
    have HR : Hid (N0.apart al zs = false) := N0.to_bad hlt (by rw [hat, h]; rfl)
    clear hat hok ez hc
    go_wp2_with (go_at_call 178; refine (hH.out _).mono ?_; rintro e w' ⟨rfl, rfl⟩)
    go_ret
    exact ⟨ret_bool HR.out.symm, rfl⟩
  ·obtain rfl : k = zs.length := by omega
   have HR : Hid (N0.apart al zs = true) := hok
   clear hok R1
   go_wp2
   go_ret
   exact ⟨ret_bool HR.out.symm, rfl⟩
def onceAt (zs : List Int) (i : Nat) : Bool := !(P0.has (zs.take i) (zs.getD i 0))
def once (zs : List Int) : Bool := N0.to (onceAt zs) zs.length
theorem once_iff (zs : List Int) : once zs = true ↔ zs.Nodup := by
 unfold once
 rw [N0.to_iff]
 constructor
 ·intro h
  rw [List.Nodup, List.pairwise_iff_getElem]
  intro i j hi hj hij e
  have hh := h j hj
  have h2 : P0.has (zs.take j) (zs.getD j 0) = false := by simpa [onceAt] using hh
  have h3 := P0.contains_of (zs := zs) (k := i) (n := j) hij (by omega)
  rw [P0.getD_get _ _ hi, e, ← P0.getD_get _ _ hj] at h3
  rw [h3] at h2
  cases h2
 ·intro h i hi
  rw [List.Nodup, List.pairwise_iff_getElem] at h
  cases hb : P0.has (zs.take i) (zs.getD i 0) with
  | false => rw [onceAt, hb]; rfl
  | true =>
   have hm := N0.has_iff.1 hb
   obtain ⟨j, hj, e⟩ := List.mem_iff_getElem.1 hm
   have hj' : j < i := by simp at hj; omega
   rw [List.getElem_take, P0.getD_get _ _ hi] at e
   exact absurd e (h j i (by omega) hi hj')
set_option maxHeartbeats 1000000 in
theorem l06Twice (a : Option Addr) (c : Nat) (zs : List Int) (w : World) (hbig : zs.length ≤ 281474976710656) (hcap : zs.length ≤ c) (hR : P0.Row w a zs) :
  Calls Tryz.prog 46 #[.slice a zs.length c] w fun e w' => e = .returned (.bool (!(once zs))) ∧ ∃ n, w' = w.drewN n := by
 go_enter Tryz.func46, Tryz.ntmps46
 go_wp2
 go_loopw [3] (fun i w' => ∃ k n : Nat, k ≤ zs.length ∧ N0.to (onceAt zs) k = true ∧ i = .int .i64 k ∧ w' = w.drewN n) (fun i _ => zs.length - (intOf i).toNat)
 case atStart => exact ⟨0, 0, Nat.zero_le _, rfl, rfl, rfl⟩
 case round =>
  obtain ⟨k, n, hk, hok, rfl, hW⟩ := hrel
  have HW : Hid (∀ m, ∃ m', wr.drewN m = w.drewN m') := fun m => ⟨n + m, by rw [hW, World.drewN_drewN]⟩
  by_cases hlt : k < zs.length
  ·have hR' : P0.Row wr a zs := by rw [hW]; exact hR.drewN n
   obtain ⟨b, off, rfl, hb, hc⟩ := hR'.get hlt
   have hH : Hid (∀ m x, Calls Tryz.prog 106 #[.slice (some ⟨b, off, none⟩) k c, .int .i64 x] (wr.drewN m) fun e w' => e = .returned (.bool (P0.has (zs.take k) x)) ∧ w' = wr.drewN m) := fun m x => P1.l02Has b off k c zs x _ (by omega) (by omega) (fun j hj => hc j hj)
   have x1 := hc k hlt
   have hat : onceAt zs k = !(P0.has (zs.take k) (zs.getD k 0)) := rfl
   obtain ⟨z, ez⟩ : ∃ z, zs.getD k 0 = z := ⟨_, rfl⟩
   rw [ez] at x1 hat
   have e1 : (0 : Int) ≤ (k : Int) := by omega
   have e2 : (k : Int) < (zs.length : Int) := by omega
   have e3 : (k : Int) ≤ (c : Int) := by omega
   by_cases h2 : P0.has (zs.take k) z = true
   ·have HR : Hid ((!(once zs)) = true) := by
     show (!(once zs)) = true
     rw [once, N0.to_bad hlt (by rw [hat, h2]; rfl)]
     rfl
    clear hat hok ez hc hR hR' hW
    go_wp2
    go_quiet ((go_at_call 106; exact quiet_bool (hH.out _ _) h2))
    go_wp2
    go_ret
    exact ⟨ret_bool HR.out.symm, HW.out _⟩
   ·have h2' : P0.has (zs.take k) z = false := by simpa using h2
    have HO : Hid (N0.to (onceAt zs) (k + 1) = true) := N0.to_step hok (by rw [hat, h2']; rfl)
    clear hat hok ez hc hR hR' hW h2
    go_wp2
    go_quiet ((go_at_call 106; exact quiet_bool (hH.out _ _) h2'))
    go_wp2
    obtain ⟨m', hm'⟩ := HW.out nq
    go_roundw
    case rel => exact ⟨k + 1, m', by omega, HO.out, by go_num, hm'⟩
    case measure => simp [intOf]; omega
  ·obtain rfl : k = zs.length := by omega
   have HR : Hid ((!(once zs)) = false) := by
    show (!(once zs)) = false
    rw [once, hok]
    rfl
   have HW0 : Hid (wr = w.drewN n) := hW
   clear hok hR hW
   go_wp2
   go_ret
   exact ⟨ret_bool HR.out.symm, n, HW0.out⟩
set_option maxHeartbeats 1000000 in
theorem sort_nil (c : Nat) (w : World) : Calls Tryz.prog 129 #[.slice none 0 c] w fun e w' => e = .returned (.tuple #[]) ∧ Below w.heap.size w w' := by
 go_enter Tryz.func129, Tryz.ntmps129
 go_wp2
 refine wp_loop_rounds 1 ?_
 rw [rounds_succ]
 go_wp2
 refine wp_loop_rounds 1 ?_
 rw [rounds_succ]
 go_wp2
 refine bodyPost_end (v := .tuple #[]) (by simp [results, Tryz.results129, go_sem]) rfl ?_
 exact ⟨rfl, Below.refl _ _⟩
theorem asc_srt (zs : List Int) : N0.asc (TW.srt zs) = once zs := by
 have h : N0.asc (TW.srt zs) = true ↔ once zs = true := by
  rw [N0.asc_iff, once_iff, ← (TW.srt_perm zs).nodup_iff]
  constructor
  ·intro h
   exact h.imp fun h e => by omega
  ·intro h
   have hs := TW.srt_sorted zs
   rw [List.pairwise_iff_getElem] at hs ⊢
   rw [List.Nodup, List.pairwise_iff_getElem] at h
   intro i j hi hj hij
   have h1 := hs i j hi hj hij
   have h2 := h i j hi hj hij
   omega
 cases h1 : N0.asc (TW.srt zs) <;> cases h2 : once zs <;> simp_all
theorem sortOwn {base n c : Nat} {a : Option Addr} {zs : List Int} (W : World) (h : IBuf base W a n c zs) (hb : base ≤ W.heap.size) (hn : zs.length ≤ 1000) :
  Calls Tryz.prog 129 #[.slice a zs.length c] W fun e w' => e = .returned (.tuple #[]) ∧ P0.Row w' a (TW.srt zs) ∧ Below base W w' := by
 obtain rfl := h.1
 cases a with
 | none =>
  have h0 : zs = [] := by
   rcases h.own with q | ⟨g, q, _⟩
   ·exact q
   ·cases q
  subst h0
  exact (sort_nil c W).mono fun e w' ⟨he, hw⟩ => ⟨he, Or.inl (by simp [TW.srt]), hw.mono hb⟩
 | some p =>
  rcases h.2.2 with ⟨q, _⟩ | ⟨g, c2, cur, hv, hg, hc, _⟩
  ·cases q
  ·simp at hv
   obtain ⟨rfl, -⟩ := hv
   have hlt : g < W.heap.size := (Array.getElem?_eq_some_iff.1 hc).1
   have hk : K0.Blk g (ints zs) W := by
    rcases h.own with h0 | ⟨g', e, _, hk'⟩
    ·rw [h0]
     exact ⟨fun j hj => by simp at hj, fun j hj => by simp at hj, hlt⟩
    ·cases e
     exact hk'
   exact (Tryz.slices_Sort_int g 0 c zs W (TW.holds_of hk) hlt (by omega)).mono fun e w' ⟨he, m, os, hw⟩ => ⟨he, by
    subst hw
    exact I2.row_of_blk (TW.sorted_blk hk (TW.srt_length _)), by
    subst hw
    exact TW.sorted_below hg hb⟩
set_option maxHeartbeats 1000000 in
theorem allApart (a : Option Addr) (c : Nat) (zs : List Int) (w : World) (hn : zs.length ≤ 1000) (hR : P0.Row w a zs) :
  Calls Tryz.prog 57 #[.slice a zs.length c] w fun e w' => e = .returned (.bool (once zs)) ∧ Below w.heap.size w w' := by
 have HA : Hid (N0.asc (TW.srt zs) = once zs) := asc_srt zs
 have hcl : Hid (∀ W, P0.Row W a zs → Calls Tryz.prog 128 #[.slice a zs.length c] W fun e w' => ∃ a' c', e = .returned (.slice a' zs.length c') ∧ IBuf W.heap.size w' a' zs.length c' zs ∧ Below W.heap.size W w') := fun W h => D0.clone a c zs W hn h
 have hso : Hid (∀ W a' c', IBuf w.heap.size W a' zs.length c' zs → w.heap.size ≤ W.heap.size → Calls Tryz.prog 129 #[.slice a' zs.length c'] W fun e w' => e = .returned (.tuple #[]) ∧ P0.Row w' a' (TW.srt zs) ∧ Below w.heap.size W w') := fun W a' c' h1 h2 => sortOwn W h1 h2 hn
 have has : Hid (∀ W a' c', P0.Row W a' (TW.srt zs) → Calls Tryz.prog 54 #[.slice a' zs.length c'] W fun e w' => e = .returned (.bool (once zs)) ∧ ∃ n, w' = W.drewN n) := fun W a' c' h => by
  have := N2.ascends a' c' (TW.srt zs) W (by rw [TW.srt_length]; omega) h
  rwa [TW.srt_length, asc_srt] at this
 go_enter Tryz.func57, Tryz.ntmps57
 go_wp2_with (first
  | (go_at_call 128; refine (hcl.out _ hR).mono ?_; rintro e w1 ⟨a1, c1, rfl, f1, b1⟩)
  | (go_at_call 129; refine (hso.out _ _ _ f1 b1.size).mono ?_; rintro e w2 ⟨rfl, r2, b2⟩)
  | (go_at_call 54; refine (has.out _ _ _ r2).mono ?_; rintro e w3 ⟨rfl, m3, rfl⟩))
 go_ret
 exact ⟨rfl, K0.below_drewN (b1.trans b2) m3⟩
set_option maxHeartbeats 2000000 in
theorem l06Lent (k : Kp) (a : Option Addr) (c : Nat) (ss : Nat → Sl) (w : World) (hn : k.ds.length ≤ 1048576) (ht : k.ds.length + Z1.tot k.ds k.ds.length ≤ 1048576) (hR : Lns w a k.ds ss) :
  Calls Tryz.prog 48 #[kval k a c] w (Out (gath (fun d : Ln => d.ino :: d.fr) k.ds k.ds.length) w) := by
 have x0 := Z4.bk_new w k a c
 have n1 := K0.below_new (w.alloc (.cells #[.string k.mem, .string k.dur, .slice a k.ds.length c, .int .i64 k.ck] 28)) (.cells #[] 3)
 have e0 : (w.alloc (.cells #[.string k.mem, .string k.dur, .slice a k.ds.length c, .int .i64 k.ck] 28)).heap.size = w.heap.size + 1 := by simp
 have B1 := J0.ibuf_made (base := w.heap.size + 1) (w.alloc (.cells #[.string k.mem, .string k.dur, .slice a k.ds.length c, .int .i64 k.ck] 28)) (by rw [e0]; exact Nat.le_refl _)
 rw [e0] at n1 B1
 have HB : Hid (∀ W, Below (w.heap.size + 1) (w.alloc (.cells #[.string k.mem, .string k.dur, .slice a k.ds.length c, .int .i64 k.ck] 28)) W → Below w.heap.size w W ∧ K0.Blk w.heap.size (Z0.kvals k a c) W) := fun W hW => ⟨x0.bel.trans (hW.mono (Nat.le_succ _)), J0.blk_keep x0.arg hW (Nat.lt_succ_self _)⟩
 have HL : Hid (∀ W, Below w.heap.size w W → Lns W a k.ds ss) := fun W hb => hR.below hb
 clear hR x0 e0
 go_enter Tryz.func48, Tryz.ntmps48
 go_wp2
 go_loopw [3, 4] (fun p i w' => ∃ (j : Nat) (a' : Option Addr) (cap' : Nat), j ≤ k.ds.length ∧ i = .int .i64 j ∧ p = .slice a' (gath (fun d : Ln => d.ino :: d.fr) k.ds j).length cap' ∧ IBuf (w.heap.size + 1) w' a' (gath (fun d : Ln => d.ino :: d.fr) k.ds j).length cap' (gath (fun d : Ln => d.ino :: d.fr) k.ds j) ∧ Below (w.heap.size + 1) (w.alloc (.cells #[.string k.mem, .string k.dur, .slice a k.ds.length c, .int .i64 k.ck] 28)) w') (fun _ i _ => k.ds.length - (intOf i).toNat)
 case atStart => exact ⟨0, _, _, Nat.zero_le _, rfl, rfl, B1, n1⟩
 case round =>
  obtain ⟨j, a3, c3, hj, rfl, rfl, hbf, hbel⟩ := hrel
  clear B1 n1
  obtain ⟨M1, kb⟩ := HB.out _ hbel
  have c2 := kb.c2
  by_cases hlt : j < k.ds.length
  ·have ls := (HL.out _ M1).sub j hlt
   obtain ⟨b, off, hab, hlt0, hc⟩ := (HL.out _ M1).row.get hlt
   obtain ⟨y0, y1, y2, y3, y4, y5, y6, y7⟩ := hc j hlt
   have hgl := gath_len (fun d : Ln => d.ino :: d.fr) k.ds 0 (fun d => by unfold N3.total; simp only [List.length_cons]; omega) (j + 1)
   have htl := Z1.tot_le (ds := k.ds) (k := j + 1) (n := k.ds.length) (by omega)
   have hgs : gath (fun d : Ln => d.ino :: d.fr) k.ds (j + 1) = gath (fun d : Ln => d.ino :: d.fr) k.ds j ++ ((dat k.ds j).ino :: (dat k.ds j).fr) := rfl
   obtain ⟨d, ed⟩ : ∃ d, dat k.ds j = d := ⟨_, rfl⟩
   obtain ⟨s, es⟩ : ∃ s, ss j = s := ⟨_, rfl⟩
   have HSl : Hid (∀ W, Below w.heap.size w W → P0.Row W s.a3 d.fr ∧ W.cell? ⟨b, off + j * 8, none⟩ = some (.int .i64 d.ino) ∧ W.cell? ⟨b, off + j * 8 + 7, none⟩ = some (.slice s.a3 d.fr.length s.c3)) := fun W hW => by
    have h1 := (HL.out W hW).sub j hlt
    obtain ⟨b', off', hab', _, hc'⟩ := (HL.out W hW).row.get hlt
    rw [hab] at hab'
    cases hab'
    obtain ⟨q0, -, -, -, -, -, -, q7⟩ := hc' j hlt
    rw [ed] at q0 q7 h1
    rw [es] at q7 h1
    exact ⟨h1.r3, q0, q7⟩
   rw [ed, es] at ls
   rw [ed] at y0 y1 y2 y3 y4 y5 y6 y7 hgs
   rw [es] at y4 y6 y7
   rw [hab] at c2
   have HC2 : Hid (∀ W, K0.Blk w.heap.size (Z0.kvals k a c) W → W.cell? ⟨w.heap.size, 2, none⟩ = some (.slice (some ⟨b, off, none⟩) k.ds.length c)) := fun W h => by
    have := h.c2
    rwa [hab] at this
   have hgl2 := congrArg List.length hgs
   rw [List.length_append, List.length_cons] at hgl2
   obtain ⟨acc, ea⟩ : ∃ acc, gath (fun d : Ln => d.ino :: d.fr) k.ds j = acc := ⟨_, rfl⟩
   rw [ea] at hbf hgs hgl2 ⊢
   have HS : Hid (gath (fun d : Ln => d.ino :: d.fr) k.ds (j + 1) = acc ++ [d.ino] ++ d.fr) := by
    show gath (fun d : Ln => d.ino :: d.fr) k.ds (j + 1) = _
    rw [hgs, List.append_assoc]
    rfl
   have hle : acc.length + 1 + d.fr.length ≤ 1048576 := by omega
   have e1 : (0 : Int) ≤ (j : Int) := by omega
   have e2 : (j : Int) < (k.ds.length : Int) := by omega
   have hB : w.heap.size + 1 ≤ wr.heap.size := kb.lt
   have S0 : wr.drew.cell? ⟨w.heap.size, 2, none⟩ = some (.slice (some ⟨b, off, none⟩) k.ds.length c) ∧ wr.drew.cell? ⟨b, off + j * 8, none⟩ = some (.int .i64 d.ino) ∧ wr.drew.cell? ⟨b, off + j * 8 + 7, none⟩ = some (.slice s.a3 d.fr.length s.c3) := ⟨c2, y0, y7⟩
   have nA := (K0.below_new wr (.cells #[.int .i64 d.ino] 3)).drew
   have MA := hbel.trans (nA.mono hB)
   obtain ⟨MA1, kA⟩ := HB.out _ MA
   obtain ⟨rA, pA, qA⟩ := HSl.out _ MA1
   have S1 : (wr.alloc (.cells #[.int .i64 d.ino] 3)).drew.cell? ⟨w.heap.size, 2, none⟩ = some (.slice (some ⟨b, off, none⟩) k.ds.length c) ∧ (wr.alloc (.cells #[.int .i64 d.ino] 3)).drew.cell? ⟨b, off + j * 8, none⟩ = some (.int .i64 d.ino) ∧ (wr.alloc (.cells #[.int .i64 d.ino] 3)).drew.cell? ⟨b, off + j * 8 + 7, none⟩ = some (.slice s.a3 d.fr.length s.c3) := ⟨HC2.out _ kA, pA, qA⟩
   have BA := (hbf.alloc (.cells #[.int .i64 d.ino] 3)).drew
   have RA : P0.Row (wr.alloc (.cells #[.int .i64 d.ino] 3)).drew (some ⟨wr.heap.size, 0, none⟩) [d.ino] := (Y1.row_one wr d.ino).drew
   have hsA : w.heap.size + 1 ≤ (wr.alloc (.cells #[.int .i64 d.ino] 3)).drew.heap.size := Nat.le_trans hB nA.size
   clear ed es hc ls ea hgs hgl hgl2 HL hab y1 y2 y3 y4 y5 y6
   go_wp2
   go_region_held3 (fun W => W.cell? ⟨w.heap.size, 2, none⟩ = some (.slice (some ⟨b, off, none⟩) k.ds.length c) ∧ W.cell? ⟨b, off + j * 8, none⟩ = some (.int .i64 d.ino) ∧ W.cell? ⟨b, off + j * 8 + 7, none⟩ = some (.slice s.a3 d.fr.length s.c3)) (assumption) ((first
    | (have f7' := f7; refine Y2.step_rows rfl (.tmp 21) (.tmp 27) rfl f7 s.a3 s.c3 d.fr (by simp [Act.eval, Act.put]) (by simp [Act.eval, Act.put]) r7 (by simp only [List.length_cons, List.length_nil]; omega) hs7 ?_; intro a8 c8 w8 f8 g8; have M8 := M7.trans (D7.run_below f7 hs7 g8); have k8 := (HB.out _ M8).2; have q8 := HSl.out _ (HB.out _ M8).1; have S8 : w8.cell? ⟨w.heap.size, 2, none⟩ = some (.slice (some ⟨b, off, none⟩) k.ds.length c) ∧ w8.cell? ⟨b, off + j * 8, none⟩ = some (.int .i64 d.ino) ∧ w8.cell? ⟨b, off + j * 8 + 7, none⟩ = some (.slice s.a3 d.fr.length s.c3) := ⟨HC2.out _ k8, q8.2.1, q8.2.2⟩)
    | (refine Y2.step_rows rfl (.tmp 13) (.tmp 20) rfl BA (some ⟨wr.heap.size, 0, none⟩) 1 [d.ino] (by simp [Act.eval, Act.put]) (by simp [Act.eval, Act.put]) RA (by simp only [List.length_cons, List.length_nil]; omega) hsA ?_; intro a7 c7 w7 f7 g7; have M7 := MA.trans (D7.run_below BA hsA g7); have k7 := (HB.out _ M7).2; have q7 := HSl.out _ (HB.out _ M7).1; have r7 := q7.1; have hs7 : w.heap.size + 1 ≤ w7.heap.size := k7.lt; have S7 : w7.cell? ⟨w.heap.size, 2, none⟩ = some (.slice (some ⟨b, off, none⟩) k.ds.length c) ∧ w7.cell? ⟨b, off + j * 8, none⟩ = some (.int .i64 d.ino) ∧ w7.cell? ⟨b, off + j * 8 + 7, none⟩ = some (.slice s.a3 d.fr.length s.c3) := ⟨HC2.out _ k7, q7.2.1, q7.2.2⟩)))
   all_goals
    have f8' : IBuf (w.heap.size + 1) w8 a8 (acc ++ [d.ino] ++ d.fr).length c8 (acc ++ [d.ino] ++ d.fr) := by rw [List.length_append, List.length_append]; exact f8
    go_wp2
    go_roundw
    case rel => exact ⟨j + 1, a8, c8, by omega, by go_num, by rw [HS.out]; simp; omega, by rw [HS.out]; exact f8', M8⟩
    case measure => simp [intOf]; omega
  ·obtain rfl : j = k.ds.length := by omega
   have e9 : decide ((k.ds.length : Int) < (k.ds.length : Int)) = false := by simp
   clear HL HB
   go_wp2
   go_ret
   exact ⟨a3, c3, rfl, hbf.own.mono (Nat.le_succ _), hbf.fits, M1⟩
end Go.Proofs.YtljnkicgahepfaaGreatDoor.KP
