/- Joined texts: plain facts and contracts. -/
import Derived.Test.YtljnkicgahepfaaGreatDoorJlA
import Derived.Test.YtljnkicgahepfaaGreatDoorJlB
import Derived.Test.YtljnkicgahepfaaGreatDoorJlG
import Derived.Shelf.Abstract
import Derived.Deep.QuietTactic
import Derived.BigQuiet
import Derived.Deep.RegionHeld3
import Derived.Test.YtljnkicgahepfaaGreatDoorJlF
import Derived.Laws.MakeOwn
import Derived.Deep.SlicePairs
set_option linter.unusedVariables false
set_option linter.unusedSimpArgs false
set_option maxRecDepth 10000
namespace Go.Proofs.YtljnkicgahepfaaGreatDoor.T1
open Go.ChangeShapes Go.WideShapes Go.ChangeAt Go.RowKit
theorem ret_bool {a b : Bool} (h : a = b) : Ending.returned (.bool a) = .returned (.bool b) := by rw [h]
set_option maxHeartbeats 1000000 in
theorem isTaken (b off n c : Nat) (es : List T0.Ent) (x : Int) (s : ByteArray) (w : World) (hn : n ≤ es.length) (hbig : n ≤ 1048576) (hlt0 : b < w.heap.size)
  (hc : ∀ j, j < es.length → w.cell? ⟨b, off + j * 2, none⟩ = some (.int .i64 (T0.ent es j).1) ∧ w.cell? ⟨b, off + j * 2 + 1, none⟩ = some (.string (T0.ent es j).2)) :
  Calls Tryz.prog 297 #[.slice (some ⟨b, off, none⟩) n c, .agg #[.int .i64 x, .string s]] w fun e w' => e = .returned (.bool (T0.taken (es.take n) (x, s))) ∧ Below w.heap.size w w' := by
 have h0 := E2.bx_new x s w 188
 go_enter Tryz.func297, Tryz.ntmps297
 go_wp2
 go_loopw [9] (fun i w' => ∃ k : Nat, k ≤ n ∧ T0.taken (es.take k) (x, s) = false ∧ i = .int .i64 k ∧ E2.Bx w.heap.size w x s w') (fun i _ => n - (intOf i).toNat)
 case atStart => exact ⟨0, Nat.zero_le _, rfl, rfl, h0⟩
 case round =>
  obtain ⟨k, hk, hno, rfl, hbx⟩ := hrel
  clear h0
  by_cases hlt : k < n
  ·have y1 := (hbx.bel.cell (p := ⟨b, off + k * 2, none⟩) hlt0).trans (hc k (by omega)).1
   have y2 := (hbx.bel.cell (p := ⟨b, off + k * 2 + 1, none⟩) hlt0).trans (hc k (by omega)).2
   have hs := T0.taken_succ es k (x, s) (by omega)
   have hin := T0.taken_of (es := es) (e := (x, s)) hlt hn
   obtain ⟨z, ez⟩ : ∃ z, T0.ent es k = z := ⟨_, rfl⟩
   rw [ez] at y1 y2 hs hin
   obtain ⟨u, v⟩ := z
   have e1 : (0 : Int) ≤ (k : Int) := by omega
   have e2 : (k : Int) < (n : Int) := by omega
   have hb2 := hbx.alloc (.cells #[.int .i64 u, .string v] 188)
   have d0 := hb2.c0
   have d1 := hb2.c1
   clear ez hc
   by_cases h1 : (v.toList == s.toList) = true
   ·have HR : Hid (T0.taken (es.take n) (x, s) = true) := hin (by rw [T0.clash, h1]; rfl)
    clear hin hs hno
    go_wp2
    go_ret
    exact ⟨ret_bool HR.out.symm, hb2.bel⟩
   ·have h1' : (v.toList == s.toList) = false := by simpa using h1
    by_cases h2 : (u == x) = true
    ·have HR : Hid (T0.taken (es.take n) (x, s) = true) := hin (by rw [T0.clash, h1', h2]; rfl)
     clear hin hs hno h1
     go_wp2
     go_ret
     exact ⟨ret_bool HR.out.symm, hb2.bel⟩
    ·have h2' : (u == x) = false := by simpa using h2
     have HN : Hid (T0.taken (es.take (k + 1)) (x, s) = false) := by rw [hs, hno, T0.clash, h1', h2']; rfl
     clear hin hs hno h1 h2
     go_wp2
     go_roundw
     case rel => exact ⟨k + 1, by omega, HN.out, by go_num, hb2⟩
     case measure => simp [intOf]; omega
  ·obtain rfl : k = n := by omega
   have HN : Hid (T0.taken (es.take k) (x, s) = false) := hno
   clear hno hc
   go_wp2
   go_ret
   exact ⟨ret_bool HN.out.symm, hbx.bel⟩
theorem ok_lit {i : Int} {s : ByteArray} {B : Nat} {w W : World} {r : Bool} (hs : s.size ≤ 281474976710656) (hr : E0.entryOk i s = r) (h : E2.Bx B w i s W) :
  Calls Tryz.prog 296 #[.agg #[.int .i64 i, .string s]] W fun e w' => e = .returned (.bool r) ∧ E2.Bx B w i s w' :=
 (E2.impl_EntryOk_bx hs h).mono fun _ _ ⟨he, hb⟩ => ⟨by rw [he, hr], hb⟩
theorem row_at {w W : World} {b off : Nat} {es : List T0.Ent} (hlt : b < w.heap.size) (hb : Below w.heap.size w W) (hc : ∀ j, j < es.length → w.cell? ⟨b, off + j * 2, none⟩ = some (.int .i64 (T0.ent es j).1) ∧ w.cell? ⟨b, off + j * 2 + 1, none⟩ = some (.string (T0.ent es j).2)) :
  ∀ j, j < es.length → W.cell? ⟨b, off + j * 2, none⟩ = some (.int .i64 (T0.ent es j).1) ∧ W.cell? ⟨b, off + j * 2 + 1, none⟩ = some (.string (T0.ent es j).2) := fun j hj =>
 ⟨(hb.cell (p := ⟨b, off + j * 2, none⟩) hlt).trans (hc j hj).1, (hb.cell (p := ⟨b, off + j * 2 + 1, none⟩) hlt).trans (hc j hj).2⟩
theorem taken_lit (b off n c : Nat) (es : List T0.Ent) (x : Int) (s : ByteArray) (w W : World) (r : Bool) (hn : n ≤ es.length) (hbig : n ≤ 1048576) (hlt0 : b < w.heap.size) (hb : Below w.heap.size w W) (hr : T0.taken (es.take n) (x, s) = r)
  (hc : ∀ j, j < es.length → w.cell? ⟨b, off + j * 2, none⟩ = some (.int .i64 (T0.ent es j).1) ∧ w.cell? ⟨b, off + j * 2 + 1, none⟩ = some (.string (T0.ent es j).2)) :
  Calls Tryz.prog 297 #[.slice (some ⟨b, off, none⟩) n c, .agg #[.int .i64 x, .string s]] W fun e w' => e = .returned (.bool r) ∧ Below w.heap.size w w' :=
 (isTaken b off n c es x s W hn hbig (Nat.lt_of_lt_of_le hlt0 hb.size) (row_at hlt0 hb hc)).mono fun _ _ ⟨he, h2⟩ => ⟨by rw [he, hr], hb.trans (h2.mono hb.size)⟩
set_option maxHeartbeats 800000 in
theorem dirOk (a : Option Addr) (c : Nat) (es : List T0.Ent) (w : World) (hbig : es.length ≤ 1048576) (hcap : es.length ≤ c) (hfit : T0.Fits es) (hR : T0.Row w a es) :
  Calls Tryz.prog 249 #[.slice a es.length c] w fun e w' => e = .returned (.bool (T0.dirOk es)) ∧ Below w.heap.size w w' := by
 by_cases h12 : 12 < (es.length : Int)
 ·have HR : Hid (T0.dirOk es = false) := by rw [T0.dirOk, decide_eq_false (by omega : ¬ es.length ≤ 12)]; rfl
  go_enter Tryz.func249, Tryz.ntmps249
  go_wp2
  go_ret
  exact ⟨ret_bool HR.out.symm, Below.refl _ _⟩
 ·have hD : T0.dirOk es = T0.okUpto es es.length := by rw [T0.dirOk, decide_eq_true (by omega : es.length ≤ 12), Bool.true_and]
  go_enter Tryz.func249, Tryz.ntmps249
  go_wp2
  go_loopw [10] (fun i w' => ∃ k : Nat, k ≤ es.length ∧ T0.okUpto es k = true ∧ i = .int .i64 k ∧ Below w.heap.size w w') (fun i _ => es.length - (intOf i).toNat)
  case atStart => exact ⟨0, Nat.zero_le _, rfl, rfl, Below.refl _ _⟩
  case round =>
   obtain ⟨k, hk, hok, rfl, hbel⟩ := hrel
   by_cases hlt : k < es.length
   ·obtain ⟨b, off, rfl, hlt0, hc⟩ := hR.get hlt
    have y1 := (hbel.cell (p := ⟨b, off + k * 2, none⟩) hlt0).trans (hc k hlt).1
    have y2 := (hbel.cell (p := ⟨b, off + k * 2 + 1, none⟩) hlt0).trans (hc k hlt).2
    have hs := T0.okUpto_succ es k
    have hat : T0.okAt es k = (E0.entryOk (T0.ent es k).1 (T0.ent es k).2 && !(T0.taken (es.take k) (T0.ent es k))) := rfl
    have hf := hfit k hlt
    obtain ⟨z, ez⟩ : ∃ z, T0.ent es k = z := ⟨_, rfl⟩
    rw [ez] at y1 y2 hat hf
    obtain ⟨u, v⟩ := z
    simp only at y1 y2 hat hf
    have e1 : (0 : Int) ≤ (k : Int) := by omega
    have e2 : (k : Int) < (es.length : Int) := by omega
    have e3 : (k : Int) ≤ (c : Int) := by omega
    have hb1 := E2.bx_new u v wr 188
    have hbd := hb1.drew
    have hB := hbel.size
    clear ez hR hfit
    by_cases hE : E0.entryOk u v = true
    ·have hiT : Hid (∀ r W, T0.taken (es.take k) (u, v) = r → Below wr.heap.size wr W → Calls Tryz.prog 297 #[.slice (some ⟨b, off, none⟩) k c, .agg #[.int .i64 u, .string v]] W fun e w' => e = .returned (.bool r) ∧ Below w.heap.size w w') := fun r W hr hb => taken_lit b off k c es u v w W r (by omega) (by omega) hlt0 (hbel.trans (hb.mono hB)) hr hc
     by_cases hT : T0.taken (es.take k) (u, v) = true
     ·have HR : Hid (T0.dirOk es = false) := T0.dirOk_bad hlt (by rw [hat, hT, Bool.not_true, Bool.and_false])
      clear hs hat hok hc hD
      go_wp2
      go_region_with (first
       | (go_at_call 296; refine (ok_lit (by omega) hE hbd).mono ?_; rintro e w4 ⟨rfl, h4⟩; have x0 := h4.c0; have x1 := h4.c1)
       | (go_at_call 297; refine (hiT.out _ _ hT h4.bel).mono ?_; rintro e w5 ⟨rfl, b5⟩))
      all_goals
       go_wp2
       go_ret
       exact ⟨ret_bool HR.out.symm, b5⟩
     ·have hT' : T0.taken (es.take k) (u, v) = false := by simpa using hT
      have HO : Hid (T0.okUpto es (k + 1) = true) := by rw [hs, hok, hat, hE, hT']; rfl
      clear hs hat hok hc hD hT
      go_wp2
      go_region_with (first
       | (go_at_call 296; refine (ok_lit (by omega) hE hbd).mono ?_; rintro e w4 ⟨rfl, h4⟩; have x0 := h4.c0; have x1 := h4.c1)
       | (go_at_call 297; refine (hiT.out _ _ hT' h4.bel).mono ?_; rintro e w5 ⟨rfl, b5⟩))
      all_goals
       go_wp2
       go_roundw
       case rel => exact ⟨k + 1, by omega, HO.out, by go_num, b5⟩
       case measure => simp [intOf]; omega
    ·have hE' : E0.entryOk u v = false := by simpa using hE
     have HR : Hid (T0.dirOk es = false) := T0.dirOk_bad hlt (by rw [hat, hE']; rfl)
     clear hs hat hok hc hD hE
     go_wp2
     have hS0 : (wr.alloc (.cells #[.int .i64 u, .string v] 188)).drew.cell? ⟨wr.heap.size, 0, none⟩ = some (.int .i64 u) ∧ (wr.alloc (.cells #[.int .i64 u, .string v] 188)).drew.cell? ⟨wr.heap.size, 1, none⟩ = some (.string v) := ⟨hbd.c0, hbd.c1⟩
     refine wp_region_held (S := fun W => W.cell? ⟨wr.heap.size, 0, none⟩ = some (.int .i64 u) ∧ W.cell? ⟨wr.heap.size, 1, none⟩ = some (.string v)) (by kernel_rfl) ?_
     refine wpAnyH_take (i := 0) (v := .agg #[.int .i64 u, .string v]) rfl (by kernel_rfl) (by kernel_rfl) (by kernel_rfl) (fun _ _ _ h => h) (Or.inl ⟨by rfl, fun w' hS' => ?_⟩) hS0 ?_
     ·obtain ⟨s0, s1⟩ := hS'
      go_simp
     simp only [BZ.z, Act.put, Nat.reduceAdd]
     refine Y0.one_call (i := 1) (by kernel_rfl) rfl rfl (.tmp 15) _ rfl (.agg #[.int .i64 u, .string v]) (by rfl) (enters_of Tryz.func296 (by kernel_rfl) rfl) ((ok_lit (by omega) hE' hbd).mono ?_)
     rintro e w4 ⟨rfl, h4⟩
     have hS4 : w4.cell? ⟨wr.heap.size, 0, none⟩ = some (.int .i64 u) ∧ w4.cell? ⟨wr.heap.size, 1, none⟩ = some (.string v) := ⟨h4.c0, h4.c1⟩
     refine ⟨_, rfl, hS4, ?_⟩
     simp only [BZ.z, Act.put, Nat.reduceAdd]
     refine wpAnyH_take (i := 2) (v := .bool true) rfl (by kernel_rfl) (by kernel_rfl) (by kernel_rfl) (fun _ _ _ h => h) (Or.inl ⟨by rfl, fun w' hS' => by rfl⟩) hS4 ?_
     simp only [BZ.z, Act.put, Nat.reduceAdd]
     refine wpAnyH_take (i := 3) (v := .bool true) rfl (by kernel_rfl) (by kernel_rfl) (by kernel_rfl) (fun _ _ _ h => h) (Or.inl ⟨by rfl, fun w' hS' => by rfl⟩) hS4 ?_
     simp only [BZ.z, Act.put, Nat.reduceAdd]
     refine wpAnyH_take (i := 4) (v := undef) rfl (by kernel_rfl) (by kernel_rfl) (by kernel_rfl) (fun _ _ _ h => h) (Or.inr ⟨by rfl, rfl⟩) hS4 ?_
     simp only [BZ.z, Act.put, Nat.reduceAdd]
     refine wpAnyH_take (i := 5) (v := undef) rfl (by kernel_rfl) (by kernel_rfl) (by kernel_rfl) (fun _ _ _ h => h) (Or.inr ⟨by rfl, rfl⟩) hS4 ?_
     simp only [BZ.z, Act.put, Nat.reduceAdd]
     refine wpAnyH_take (i := 6) (v := undef) rfl (by kernel_rfl) (by kernel_rfl) (by kernel_rfl) (fun _ _ _ h => h) (Or.inr ⟨by rfl, rfl⟩) hS4 ?_
     simp only [BZ.z, Act.put, Nat.reduceAdd]
     refine wpAnyH_take (i := 7) (v := undef) rfl (by kernel_rfl) (by kernel_rfl) (by kernel_rfl) (fun _ _ _ h => h) (Or.inr ⟨by rfl, rfl⟩) hS4 ?_
     simp only [BZ.z, Act.put, Nat.reduceAdd]
     refine wpAnyH_take (i := 8) (v := undef) rfl (by kernel_rfl) (by kernel_rfl) (by kernel_rfl) (fun _ _ _ h => h) (Or.inr ⟨by rfl, rfl⟩) hS4 ?_
     simp only [BZ.z, Act.put, Nat.reduceAdd]
     refine wpAnyH_take (i := 9) (v := .bool true) rfl (by kernel_rfl) (by kernel_rfl) (by kernel_rfl) (fun _ _ _ h => h) (Or.inl ⟨by rfl, fun w' hS' => by rfl⟩) hS4 ?_
     simp only [BZ.z, Act.put, Nat.reduceAdd]
     refine wpAnyH_done (by kernel_rfl) ?_ _
     all_goals
      go_wp2
      go_ret
      exact ⟨ret_bool HR.out.symm, hbel.trans (h4.bel.mono hB)⟩
   ·obtain rfl : k = es.length := by omega
    have HR : Hid (T0.dirOk es = true) := by rw [hD, hok]; rfl
    clear hok hD hR
    go_wp2
    go_ret
    exact ⟨ret_bool HR.out.symm, hbel⟩
end Go.Proofs.YtljnkicgahepfaaGreatDoor.T1
namespace Go.Proofs.YtljnkicgahepfaaGreatDoor.T2
open Go.ChangeShapes Go.WideShapes Go.ChangeAt Go.RowKit
theorem ret_str {a b : ByteArray} (h : a = b) : Ending.returned (.string a) = .returned (.string b) := by rw [h]
theorem dir_lit {a : Option Addr} {c : Nat} {es : List T0.Ent} {W : World} {r : Bool} (hbig : es.length ≤ 1048576) (hcap : es.length ≤ c) (hfit : T0.Fits es) (hR : T0.Row W a es) (hr : T0.dirOk es = r) :
  Calls Tryz.prog 249 #[.slice a es.length c] W fun e w' => e = .returned (.bool r) ∧ Below W.heap.size W w' := (T1.dirOk a c es W hbig hcap hfit hR).mono fun _ _ h => ⟨by rw [h.1, hr], h.2⟩
end Go.Proofs.YtljnkicgahepfaaGreatDoor.T2
namespace Go.Proofs.YtljnkicgahepfaaGreatDoor.T3
open Go.ChangeShapes Go.WideShapes Go.ChangeAt Go.RowKit
open T2 (ret_str)
theorem putE_empty {i : Int} {s : ByteArray} (h : E0.entryOk i s = false) : (E0.putE i s).toList.isEmpty = true := by
 rw [E0.putE, if_neg (by rw [h]; decide), Lib.toList_data]
 rfl
theorem putE_full {i : Int} {s : ByteArray} (h : E0.entryOk i s = true) : (E0.putE i s).toList.isEmpty = false := by
 have := T0.putE_size16 h
 rw [Lib.toList_data]
 cases hl : (E0.putE i s).data.toList with
 | nil => rw [Lib.size_eq, hl] at this; simp at this
 | cons x r => rfl
set_option maxHeartbeats 4000000 in
theorem spec_PutDir (a : Option Addr) (c : Nat) (es : List T0.Ent) (w : World) (hbig : es.length ≤ 1048576) (hcap : es.length ≤ c) (hfit : T0.Fits es) (hR : T0.Row w a es) :
  Calls Tryz.prog 167 #[.slice a es.length c] w fun e w' => e = .returned (.string (T0.putD es)) ∧ Below w.heap.size w w' := by
 have HB : Hid (∀ k, k < es.length → T0.okAt es k = false → T0.putD es = ⟨#[]⟩) := fun k hk h => by rw [T0.putD, T0.dirOk_bad hk h]; rfl
 have HL : Hid (12 < es.length → T0.putD es = ⟨#[]⟩) := fun h => by rw [T0.putD, T0.dirOk, decide_eq_false (by omega : ¬ es.length ≤ 12)]; rfl
 have HY : Hid (es.length ≤ 12 → T0.okUpto es es.length = true → T0.putD es = T0.joined es es.length) := fun h1 h2 => by rw [T0.putD, T0.dirOk, decide_eq_true h1, h2]; rfl
 go_enter Tryz.func167, Tryz.ntmps167
 go_wp2
 go_loopw [3, 4] (fun t i w' => ∃ j : Nat, j ≤ es.length ∧ (j = 0 ∨ es.length ≤ 12) ∧ T0.okUpto es j = true ∧ i = .int .i64 j ∧ t = .string (T0.joined es j) ∧ Below w.heap.size w w') (fun _ i _ => es.length - (intOf i).toNat)
 case atStart => exact ⟨0, Nat.zero_le _, Or.inl rfl, rfl, rfl, rfl, Below.refl _ _⟩
 case round =>
  obtain ⟨j, hj, h12, hok, rfl, rfl, hbel⟩ := hrel
  by_cases hlt : j < es.length
  ·obtain ⟨b, off, rfl, hlt0, hc⟩ := (hR.below hbel).get hlt
   have y1 := (hc j hlt).1
   have y2 := (hc j hlt).2
   have hs := T0.okUpto_succ es j
   have hat : T0.okAt es j = (E0.entryOk (T0.ent es j).1 (T0.ent es j).2 && !(T0.taken (es.take j) (T0.ent es j))) := rfl
   have hf := hfit j hlt
   have hu : T0.joined es (j + 1) = T0.joined es j ++ E0.putE (T0.ent es j).1 (T0.ent es j).2 := rfl
   have hjs := T0.joined_size hok j (Nat.le_refl _)
   have hbad := HB.out j hlt
   have hin := fun k (hk : k < j) => T0.taken_of (es := es) (e := T0.ent es j) hk hj
   have hts := fun k (hk : k < es.length) => T0.taken_succ es k (T0.ent es j) hk
   obtain ⟨z, ez⟩ : ∃ z, T0.ent es j = z := ⟨_, rfl⟩
   rw [ez] at y1 y2 hat hf hu hin hts
   obtain ⟨u, v⟩ := z
   simp only at y1 y2 hat hf hu
   have e1 : (0 : Int) ≤ (j : Int) := by omega
   have e2 : (j : Int) < (es.length : Int) := by omega
   clear ez hR hfit HB
   go_wp2
   go_loopw [5] (fun i w' => ∃ k m : Nat, k ≤ j ∧ T0.taken (es.take k) (u, v) = false ∧ i = .int .i64 k ∧ w' = wr.drewN m) (fun i _ => j - (intOf i).toNat)
   case atStart => exact ⟨0, 0, Nat.zero_le _, rfl, rfl, rfl⟩
   case round =>
    obtain ⟨k, m, hk, hno, rfl, hW⟩ := hrel
    have x1 : wr.cell? ⟨b, off + j * 2, none⟩ = some (.int .i64 u) := by rw [hW]; exact y1
    have x2 : wr.cell? ⟨b, off + j * 2 + 1, none⟩ = some (.string v) := by rw [hW]; exact y2
    have HW : Below w.heap.size w wr := by rw [hW]; exact K0.below_drewN hbel m
    have HD : Hid (wr = _) := hW
    by_cases hlk : k < j
    ·have x3 : wr.cell? ⟨b, off + k * 2, none⟩ = some (.int .i64 (T0.ent es k).1) := by rw [hW]; exact (hc k (by omega)).1
     have x4 : wr.cell? ⟨b, off + k * 2 + 1, none⟩ = some (.string (T0.ent es k).2) := by rw [hW]; exact (hc k (by omega)).2
     have hin1 := hin k hlk
     have hts1 := hts k (by omega)
     obtain ⟨z, ez⟩ : ∃ z, T0.ent es k = z := ⟨_, rfl⟩
     rw [ez] at x3 x4 hin1 hts1
     obtain ⟨p, q⟩ := z
     simp only at x3 x4
     have f1 : (0 : Int) ≤ (k : Int) := by omega
     have f2 : (k : Int) < (es.length : Int) := by omega
     have f3 : (k : Int) < (j : Int) := by omega
     clear ez hc y1 y2 hW hin hts
     by_cases h1 : (q.toList == v.toList) = true
     ·have HR : Hid (T0.putD es = ⟨#[]⟩) := hbad (by rw [hat, hin1 (by rw [T0.clash, h1]; rfl), Bool.not_true, Bool.and_false])
      clear hin1 hts1 hat hbad hs hok hu
      go_wp2
      go_quiet (fail)
      go_wp2
      go_ret
      exact ⟨ret_str HR.out.symm, K0.below_drewN HW _⟩
     ·have h1' : (q.toList == v.toList) = false := by simpa using h1
      by_cases h2 : (p == u) = true
      ·have HR : Hid (T0.putD es = ⟨#[]⟩) := hbad (by rw [hat, hin1 (by rw [T0.clash, h1', h2]; rfl), Bool.not_true, Bool.and_false])
       clear hin1 hts1 hat hbad hs hok hu h1
       go_wp2
       go_quiet (fail)
       go_wp2
       go_ret
       exact ⟨ret_str HR.out.symm, K0.below_drewN HW _⟩
      ·have h2' : (p == u) = false := by simpa using h2
       have HN : Hid (T0.taken (es.take (k + 1)) (u, v) = false) := by rw [hts1, hno, T0.clash, h1', h2']; rfl
       clear hin1 hts1 hat hbad hs hok hu h1 h2 hno
       go_wp2
       go_quiet (fail)
       go_wp2
       go_roundw
       case rel => exact ⟨k + 1, m + nq, by omega, HN.out, by go_num, by rw [HD.out, World.drewN_drewN]⟩
       case measure => simp [intOf]; omega
    ·obtain rfl : k = j := by omega
     clear hc y1 y2 hW HD hin hts
     by_cases hE : E0.entryOk u v = true
     ·have g1 := putE_full hE
      have hps := T0.putE_size16 hE
      by_cases hl : 12 < es.length
      ·have HR : Hid (T0.putD es = ⟨#[]⟩) := HL.out hl
       have hl' : 12 < (es.length : Int) := by omega
       clear hat hbad hs hok hu hno
       go_wp2_with (go_at_call 226; refine (E2.spec_PutEntry u v _ hf).mono ?_; rintro e w2 ⟨rfl, b2⟩)
       go_ret
       exact ⟨ret_str HR.out.symm, HW.trans (b2.mono HW.size)⟩
      ·have hl' : ¬ 12 < (es.length : Int) := by omega
       have hl'' : decide (12 < (es.length : Int)) = false := by simpa using hl'
       have HO : Hid (T0.okUpto es (k + 1) = true) := by rw [hs, hok, hat, hE, hno]; rfl
       have HU : Hid (T0.joined es (k + 1) = T0.joined es k ++ E0.putE u v) := hu
       have zz : (T0.joined es k).size + (E0.putE u v).size ≤ 9223372036854775807 := by omega
       have zz2 : 16 * k + 16 ≤ 9223372036854775807 := by omega
       clear hat hbad hs hok hu hno
       go_wp2_with (go_at_call 226; refine (E2.spec_PutEntry u v _ hf).mono ?_; rintro e w2 ⟨rfl, b2⟩)
       go_roundw
       case rel => exact ⟨k + 1, by omega, Or.inr (by omega), HO.out, by go_num, by rw [HU.out], HW.trans (b2.mono HW.size)⟩
       case measure => simp [intOf]; omega
     ·have hE' : E0.entryOk u v = false := by simpa using hE
      have g1 := putE_empty hE'
      have HR : Hid (T0.putD es = ⟨#[]⟩) := hbad (by rw [hat, hE']; rfl)
      clear hat hbad hs hok hu hno
      go_wp2_with (go_at_call 226; refine (E2.spec_PutEntry u v _ hf).mono ?_; rintro e w2 ⟨rfl, b2⟩)
      go_ret
      exact ⟨ret_str HR.out.symm, HW.trans (b2.mono HW.size)⟩
  ·obtain rfl : j = es.length := by omega
   have HP : Hid (T0.putD es = T0.joined es es.length) := by
    show T0.putD es = T0.joined es es.length
    rcases h12 with h | h
    ·exact HY.out (by omega) hok
    ·exact HY.out h hok
   clear hok hR hfit h12 HB HL HY
   go_wp2
   go_ret
   exact ⟨ret_str HP.out.symm, hbel⟩
end Go.Proofs.YtljnkicgahepfaaGreatDoor.T3
namespace Go.Proofs.YtljnkicgahepfaaGreatDoor.Z1
open Go.ChangeShapes Go.WideShapes Go.ChangeAt Go.RowKit
open N0 (Ln)
open N1 (Sl val vals Lists FitM LB lb_new)
open N3 (total szOk szNo)
open Z0 (dat Row Lns Kp kval kvals FitK)
def leftL (d : Ln) (l : Int) : Int := if (total d : Int) ≤ l then l - (total d : Int) else -1
theorem ret_int {k : IntKind} {a b : Int} (h : a = b) : Ending.returned (.int k a) = .returned (.int k b) := by rw [h]
set_option maxHeartbeats 1000000 in
theorem szLoan (d : Ln) (s : Sl) (l : Int) (w : World) (hF : FitM d s) (h0 : 0 ≤ l) (hl : l ≤ 1048576) :
  Calls Tryz.prog 145 #[val d s, .int .i64 l] w fun e w' => e = .returned (.int .i64 (leftL d l)) ∧ Below w.heap.size w w' := by
 have hB := K0.below_new w (.cells #[.int .i64 d.ino, .int .i64 d.cl, .int .i64 d.un, .string d.rc, .slice s.a1 d.pg.length s.c1, .string d.sav, .slice s.a2 d.po.length s.c2, .slice s.a3 d.fr.length s.c3] 170)
 have l1 := hF.l1
 have l2 := hF.l2
 have l3 := hF.l3
 have l4 := hF.m4
 have l5 := hF.m5
 have l4' : d.rc.size ≤ 9223372036854775807 := l4
 have l5' : d.sav.size ≤ 9223372036854775807 := l5
 by_cases h : (total d : Int) ≤ l
 ·have HR : Hid (leftL d l = l - (d.rc.size : Int) - (d.pg.length : Int) - (d.sav.size : Int) - (d.po.length : Int) - (d.fr.length : Int)) := by
   show leftL d l = _
   rw [leftL, if_pos h, total]
   omega
  unfold total at h
  have e1 : (0 : Int) ≤ l - (d.rc.size : Int) := by omega
  have g1 : ¬ (l - (d.rc.size : Int) < 0) := by omega
  have g2 : ¬ (l - (d.rc.size : Int) - (d.pg.length : Int) < 0) := by omega
  have g3 : ¬ (l - (d.rc.size : Int) - (d.pg.length : Int) - (d.sav.size : Int) < 0) := by omega
  have g4 : ¬ (l - (d.rc.size : Int) - (d.pg.length : Int) - (d.sav.size : Int) - (d.po.length : Int) < 0) := by omega
  have g5 : ¬ (l - (d.rc.size : Int) - (d.pg.length : Int) - (d.sav.size : Int) - (d.po.length : Int) - (d.fr.length : Int) < 0) := by omega
  go_enter Tryz.func145, Tryz.ntmps145
  go_wp2_with (go_at_call 208; refine (szOk _ _ _ _ _ (by assumption) (by omega) (by omega)).mono ?_; rintro e w' ⟨rfl, rfl⟩)
  go_ret
  exact ⟨ret_int HR.out.symm, hB⟩
 ·have HR : Hid (leftL d l = -1) := if_neg h
  rw [HR.out]
  unfold total at h
  by_cases g1 : l - (d.rc.size : Int) < 0
  ·go_enter Tryz.func145, Tryz.ntmps145
   go_wp2
   go_ret
   exact ⟨rfl, hB⟩
  ·by_cases g2 : l - (d.rc.size : Int) - (d.pg.length : Int) < 0
   ·go_enter Tryz.func145, Tryz.ntmps145
    go_wp2_with (go_at_call 208; refine (szNo _ _ _ _ _ (by assumption) (by omega) (by omega) (by omega)).mono ?_; rintro e w' ⟨rfl, rfl⟩)
    go_ret
    exact ⟨rfl, hB⟩
   ·by_cases g3 : l - (d.rc.size : Int) - (d.pg.length : Int) - (d.sav.size : Int) < 0
    ·go_enter Tryz.func145, Tryz.ntmps145
     go_wp2_with (go_at_call 208; refine (szOk _ _ _ _ _ (by assumption) (by omega) (by omega)).mono ?_; rintro e w' ⟨rfl, rfl⟩)
     go_ret
     exact ⟨rfl, hB⟩
    ·by_cases g4 : l - (d.rc.size : Int) - (d.pg.length : Int) - (d.sav.size : Int) - (d.po.length : Int) < 0
     ·go_enter Tryz.func145, Tryz.ntmps145
      go_wp2_with (first
       | (go_at_call 208; refine (szOk _ _ _ _ _ (by assumption) (by omega) (by omega)).mono ?_; rintro e w' ⟨rfl, rfl⟩)
       | (go_at_call 208; refine (szNo _ _ _ _ _ (by assumption) (by omega) (by omega) (by omega)).mono ?_; rintro e w' ⟨rfl, rfl⟩))
      go_ret
      exact ⟨rfl, hB⟩
     ·go_enter Tryz.func145, Tryz.ntmps145
      go_wp2_with (first
       | (go_at_call 208; refine (szOk _ _ _ _ _ (by assumption) (by omega) (by omega)).mono ?_; rintro e w' ⟨rfl, rfl⟩)
       | (go_at_call 208; refine (szNo _ _ _ _ _ (by assumption) (by omega) (by omega) (by omega)).mono ?_; rintro e w' ⟨rfl, rfl⟩))
      go_ret
      exact ⟨rfl, hB⟩
def tot (ds : List Ln) : Nat → Nat
 | 0 => 0
 | k + 1 => tot ds k + total (dat ds k)
theorem tot_mono (ds : List Ln) (k : Nat) : ∀ m, tot ds k ≤ tot ds (k + m)
 | 0 => Nat.le_refl _
 | m + 1 => Nat.le_trans (tot_mono ds k m) (Nat.le_add_right _ _)
theorem tot_le {ds : List Ln} {k n : Nat} (h : k ≤ n) : tot ds k ≤ tot ds n := by
 have := tot_mono ds k (n - k)
 rwa [show k + (n - k) = n by omega] at this
theorem tot_one {ds : List Ln} {j : Nat} (hj : j < ds.length) : total (dat ds j) ≤ tot ds ds.length := by
 have h1 := tot_le (ds := ds) (k := j + 1) (n := ds.length) (by omega)
 have h2 : tot ds (j + 1) = tot ds j + total (dat ds j) := rfl
 omega
def leftS (ds : List Ln) (l : Int) : Int := if ((ds.length + tot ds ds.length : Nat) : Int) ≤ l then l - (ds.length : Int) - (tot ds ds.length : Int) else -1
set_option maxHeartbeats 1000000 in
theorem szLoanS (a : Option Addr) (c : Nat) (ds : List Ln) (ss : Nat → Sl) (l : Int) (w : World) (hn : ds.length ≤ maxLen) (hF : ∀ j, j < ds.length → FitM (dat ds j) (ss j)) (h0 : 0 ≤ l) (hl : l ≤ 1048576) (hR : Row w a ds ss) :
  Calls Tryz.prog 74 #[.slice a ds.length c, .int .i64 l] w fun e w' => e = .returned (.int .i64 (leftS ds l)) ∧ Below w.heap.size w w' := by
 unfold maxLen at hn
 by_cases h1 : l - (ds.length : Int) < 0
 ·have HR : Hid (leftS ds l = -1) := if_neg (by omega)
  go_enter Tryz.func74, Tryz.ntmps74
  go_wp2
  go_ret
  exact ⟨ret_int HR.out.symm, Below.refl _ _⟩
 ·go_enter Tryz.func74, Tryz.ntmps74
  go_wp2
  go_loopw [1, 5] (fun q i w' => ∃ k : Nat, k ≤ ds.length ∧ i = .int .i64 k ∧ q = .int .i64 (l - (ds.length : Int) - (tot ds k : Int)) ∧ ((ds.length + tot ds k : Nat) : Int) ≤ l ∧ Below w.heap.size w w') (fun _ i _ => ds.length - (intOf i).toNat)
  case atStart => exact ⟨0, Nat.zero_le _, rfl, by simp [tot], by simp [tot]; omega, Below.refl _ _⟩
  case round =>
   obtain ⟨k, hk, rfl, rfl, hs, hbel⟩ := hrel
   have hB := hbel.size
   by_cases hlt : k < ds.length
   ·obtain ⟨b, off, rfl, hlt0, hc⟩ := (hR.below hbel).get hlt
    obtain ⟨y0, y1, y2, y3, y4, y5, y6, y7⟩ := hc k hlt
    have hf := hF k hlt
    have hsum : tot ds (k + 1) = tot ds k + total (dat ds k) := rfl
    obtain ⟨d, ed⟩ : ∃ d, dat ds k = d := ⟨_, rfl⟩
    obtain ⟨s, es⟩ : ∃ s, ss k = s := ⟨_, rfl⟩
    rw [ed, es] at hf
    rw [ed] at hsum y0 y1 y2 y3 y4 y5 y6 y7
    rw [es] at y4 y6 y7
    have e1 : (0 : Int) ≤ (k : Int) := by omega
    have e2 : (k : Int) < (ds.length : Int) := by omega
    have hsz : Hid (∀ W, Calls Tryz.prog 145 #[val d s, .int .i64 (l - (ds.length : Int) - (tot ds k : Int))] W fun e w' => e = .returned (.int .i64 (leftL d (l - (ds.length : Int) - (tot ds k : Int)))) ∧ Below W.heap.size W w') := fun W => szLoan d s _ W hf (by omega) (by omega)
    clear ed es hc hF hR hf
    by_cases h2 : ((ds.length + tot ds (k + 1) : Nat) : Int) ≤ l
    ·have hz : leftL d (l - (ds.length : Int) - (tot ds k : Int)) = l - (ds.length : Int) - (tot ds (k + 1) : Int) := by rw [leftL, if_pos (by omega)]; omega
     rw [hz] at hsz
     have h3 : ¬ l - (ds.length : Int) - (tot ds (k + 1) : Int) < 0 := by omega
     clear hz hsum
     go_wp2_with (go_at_call 145; refine (hsz.out _).mono ?_; rintro e w1 ⟨rfl, b1⟩)
     go_roundw
     case rel => exact ⟨k + 1, by omega, by go_num, rfl, h2, hbel.trans (b1.mono hB)⟩
     case measure => simp [intOf]; omega
    ·have hz : leftL d (l - (ds.length : Int) - (tot ds k : Int)) = -1 := by rw [leftL, if_neg (by omega)]
     rw [hz] at hsz
     have HR : Hid (leftS ds l = -1) := by
      refine if_neg ?_
      have := tot_le (ds := ds) (k := k + 1) (n := ds.length) (by omega)
      omega
     clear hz hsum
     go_wp2_with (go_at_call 145; refine (hsz.out _).mono ?_; rintro e w1 ⟨rfl, b1⟩)
     go_ret
     exact ⟨ret_int HR.out.symm, hbel.trans (b1.mono hB)⟩
   ·obtain rfl : k = ds.length := by omega
    have HR : Hid (leftS ds l = l - (ds.length : Int) - (tot ds ds.length : Int)) := if_pos hs
    clear hR hF
    go_wp2
    go_ret
    exact ⟨ret_int HR.out.symm, hbel⟩
def small (k : Kp) : Prop := k.mem.size + k.dur.size + k.ds.length + tot k.ds k.ds.length ≤ 1048576
set_option maxHeartbeats 1000000 in
theorem szFit (k : Kp) (a : Option Addr) (c : Nat) (ss : Nat → Sl) (w : World) (hF : FitK k ss) (h : small k) (hR : Row w a k.ds ss) :
  Calls Tryz.prog 18 #[kval k a c, .int .i64 1048576] w fun e w' => (∃ q : Int, 0 ≤ q ∧ e = .returned (.int .i64 q)) ∧ Below w.heap.size w w' := by
 have hB := K0.below_new w (.cells #[.string k.mem, .string k.dur, .slice a k.ds.length c, .int .i64 k.ck] 41)
 have hk := K0.blk_new (kvals k a c) w 41
 unfold small at h
 have hd := D1.szDev k.mem k.dur (w.alloc (.cells #[.string k.mem, .string k.dur, .slice a k.ds.length c, .int .i64 k.ck] 41)) hF.m1 hF.m2
 have ed : D1.sz k.mem k.dur = 1048576 - (k.mem.size : Int) - (k.dur.size : Int) := if_pos (by omega)
 rw [ed] at hd
 have HS : Hid (∀ W, Below w.heap.size w W → Calls Tryz.prog 74 #[.slice a k.ds.length c, .int .i64 (1048576 - (k.mem.size : Int) - (k.dur.size : Int))] W fun e w' => e = .returned (.int .i64 (1048576 - (k.mem.size : Int) - (k.dur.size : Int) - (k.ds.length : Int) - (tot k.ds k.ds.length : Int))) ∧ Below W.heap.size W w') := fun W hb => (szLoanS a c k.ds ss _ W hF.n hF.each (by omega) (by omega) (hR.below hb)).mono fun _ _ ⟨he, hb⟩ => ⟨by rw [he, leftS, if_pos (by omega)], hb⟩
 have g1 : ¬ (1048576 - (k.mem.size : Int) - (k.dur.size : Int) < 0) := by omega
 have g2 : ¬ (1048576 - (k.mem.size : Int) - (k.dur.size : Int) - (k.ds.length : Int) - (tot k.ds k.ds.length : Int) < 0) := by omega
 clear ed hR hF
 go_enter Tryz.func18, Tryz.ntmps18
 go_wp2_with (first
  | (go_at_call 73; refine hd.mono ?_; rintro e w1 ⟨rfl, b1⟩; have k1 := hk.below b1; have x2 := k1.c2; have l1 := hB.trans (b1.mono hB.size))
  | (go_at_call 74; refine (HS.out _ l1).mono ?_; rintro e w2 ⟨rfl, b2⟩))
 go_ret
 exact ⟨⟨_, by omega, rfl⟩, l1.trans (b2.mono l1.size)⟩
set_option maxHeartbeats 1000000 in
theorem szBig (k : Kp) (a : Option Addr) (c : Nat) (ss : Nat → Sl) (w : World) (hF : FitK k ss) (h : ¬ small k) (hR : Row w a k.ds ss) :
  Calls Tryz.prog 18 #[kval k a c, .int .i64 1048576] w fun e w' => e = .returned (.int .i64 (-1)) ∧ Below w.heap.size w w' := by
 have hB := K0.below_new w (.cells #[.string k.mem, .string k.dur, .slice a k.ds.length c, .int .i64 k.ck] 41)
 have hk := K0.blk_new (kvals k a c) w 41
 unfold small at h
 have hd := D1.szDev k.mem k.dur (w.alloc (.cells #[.string k.mem, .string k.dur, .slice a k.ds.length c, .int .i64 k.ck] 41)) hF.m1 hF.m2
 by_cases h1 : (k.mem.size : Int) + k.dur.size ≤ 1048576
 ·have ed : D1.sz k.mem k.dur = 1048576 - (k.mem.size : Int) - (k.dur.size : Int) := if_pos h1
  rw [ed] at hd
  have HS : Hid (∀ W, Below w.heap.size w W → Calls Tryz.prog 74 #[.slice a k.ds.length c, .int .i64 (1048576 - (k.mem.size : Int) - (k.dur.size : Int))] W fun e w' => e = .returned (.int .i64 (-1)) ∧ Below W.heap.size W w') := fun W hb => (szLoanS a c k.ds ss _ W hF.n hF.each (by omega) (by omega) (hR.below hb)).mono fun _ _ ⟨he, hb⟩ => ⟨by rw [he, leftS, if_neg (by omega)], hb⟩
  have g1 : ¬ (1048576 - (k.mem.size : Int) - (k.dur.size : Int) < 0) := by omega
  clear ed hR hF
  go_enter Tryz.func18, Tryz.ntmps18
  go_wp2_with (first
   | (go_at_call 73; refine hd.mono ?_; rintro e w1 ⟨rfl, b1⟩; have k1 := hk.below b1; have x2 := k1.c2; have l1 := hB.trans (b1.mono hB.size))
   | (go_at_call 74; refine (HS.out _ l1).mono ?_; rintro e w2 ⟨rfl, b2⟩))
  go_ret
  exact ⟨rfl, l1.trans (b2.mono l1.size)⟩
 ·have ed : D1.sz k.mem k.dur = -1 := if_neg h1
  rw [ed] at hd
  clear ed hR hF
  go_enter Tryz.func18, Tryz.ntmps18
  go_wp2_with (go_at_call 73; refine hd.mono ?_; rintro e w1 ⟨rfl, b1⟩)
  go_ret
  exact ⟨rfl, hB.trans (b1.mono hB.size)⟩
end Go.Proofs.YtljnkicgahepfaaGreatDoor.Z1
