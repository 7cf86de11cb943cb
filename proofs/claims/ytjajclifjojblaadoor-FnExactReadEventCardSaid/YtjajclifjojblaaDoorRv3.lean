/- A line that is read word by word: what is wanted, a number, numbers, the rest, zeros, whether it is done. -/
import Derived.Test.YtjajclifjojblaaDoorRv2
import Derived.Test.YtjajclifjojblaaDoorEv2
import Derived.Test.YtjajclifjojblaaDoorIB0
namespace Go.Proofs.YtjajclifjojblaaDoor.RY
open Go.ChangeShapes Go.WideShapes Go.ChangeAt Go.RowKit
set_option linter.unusedVariables false
set_option linter.unusedSimpArgs false
set_option maxRecDepth 10000
open RV (mk sp jn)
open LF (Btw)
open RX (RB rv Ok)
open EX (Tabs)
variable {B : Nat} {s : ByteArray} {R : List (List UInt8)} {x : Bool} {w : World}

theorem want (b : Bool) (hb : RB B s R x w) :
    Calls Tryd.prog 38 #[.pointer (some ⟨B, 0, none⟩), .bool b] w fun e w' => e = .returned (.tuple #[]) ∧ RB B s R (x || !b) w' ∧ Btw B (B + 1) w w' := by
  have c3 := hb.c3
  have f3 := hb.f3
  cases x
  · go_enter Tryd.func38, Tryd.ntmps38
    go_wp2
    refine bodyPost_end (v := .tuple #[]) (by simp [results, Tryd.results38, go_sem]) rfl ?_
    exact ⟨rfl, hb.set 3 _, (Btw.refl _ _ _).set (p := ⟨B, 3, none⟩) (Nat.le_refl _) (Nat.lt_succ_self _) _⟩
  · go_enter Tryd.func38, Tryd.ntmps38
    go_wp2
    refine bodyPost_end (v := .tuple #[]) (by simp [results, Tryd.results38, go_sem]) rfl ?_
    exact ⟨rfl, hb.set 3 _, (Btw.refl _ _ _).set (p := ⟨B, 3, none⟩) (Nat.le_refl _) (Nat.lt_succ_self _) _⟩

theorem isDone (hb : RB B s R x w) :
    Calls Tryd.prog 22 #[.pointer (some ⟨B, 0, none⟩)] w fun e w' => e = .returned (.bool (R.isEmpty && !x)) ∧ w' = w := by
  have c2 := hb.c2
  have c3 := hb.c3
  cases hR : R.isEmpty
  · rw [hR] at c2
    go_enter Tryd.func22, Tryd.ntmps22
    go_wp2
    go_ret
    exact ⟨rfl, rfl⟩
  · rw [hR] at c2
    go_enter Tryd.func22, Tryd.ntmps22
    go_wp2
    go_ret
    exact ⟨rfl, rfl⟩

/-- The tables lie ahead of the line that is read. -/
def TB (B : Nat) (w : World) : Prop := ∃ w0 : World, Tabs w0 ∧ w0.heap.size ≤ B ∧ Below w0.heap.size w0 w
theorem TB.tabs (h : TB B w) : Tabs w := by
  obtain ⟨w0, h1, h2, h3⟩ := h
  exact h1.below h3
theorem TB.btw {W : World} (h : TB B w) (hb : Btw B (B + 1) w W) : TB B W := by
  obtain ⟨w0, h1, h2, h3⟩ := h
  exact ⟨w0, h1, h2, h3.trans (hb.below h2 h3.size)⟩
theorem TB.below {W : World} (h : TB B w) (hb : Below w.heap.size w W) : TB B W := by
  obtain ⟨w0, h1, h2, h3⟩ := h
  exact ⟨w0, h1, h2, h3.trans (hb.mono h3.size)⟩

theorem number (hR : Ok R) (hT : TB B w) (hb : RB B s R x w) :
    Calls Tryd.prog 30 #[.pointer (some ⟨B, 0, none⟩)] w fun e w' => e = .returned (.int .i64 (R0.rd (mk (R.headD [])))) ∧ RB B s R.tail (x || !decide (0 ≤ R0.rd (mk (R.headD [])))) w' ∧ Btw B (B + 1) w w' := by
  have hsz : (mk (R.headD [])).size ≤ 281474976710656 := by
    have h1 := hR.size
    cases R with
    | nil => simp [ByteArray.size]
    | cons p R =>
      have := RV.mem_le (p :: R) p (by simp)
      simp [ByteArray.size]
      omega
  obtain ⟨p, hp⟩ : ∃ p, mk (R.headD []) = p := ⟨_, rfl⟩
  rw [hp] at hsz ⊢
  have HW : Hid (Calls Tryd.prog 20 #[.pointer (some ⟨B, 0, none⟩)] w fun e w' => e = .returned (.string p) ∧ RB B s R.tail x w' ∧ Btw B (B + 1) w w') := by
    have := RX.word B s R x w hR hb
    rw [hp] at this
    exact this
  obtain ⟨z, hz⟩ : ∃ z, R0.rd p = z := ⟨_, rfl⟩
  rw [hz]
  clear hp
  go_enter Tryd.func30, Tryd.ntmps30
  go_wp2_with (first
    | (go_at_call 20; refine HW.out.mono ?_; rintro e w1 ⟨rfl, hb1, g1⟩)
    | (go_at_call 37; refine (R1.impl_ReadDec _ _ hsz (hT.btw g1).tabs.p).mono ?_; rintro e w2 ⟨rfl, b2⟩; rw [hz]; have hb2 := hb1.below b2; have g2 := g1.then b2)
    | (go_at_call 38; refine (want _ hb2).mono ?_; rintro e w3 ⟨rfl, hb3, g3⟩))
  go_ret
  exact ⟨rfl, hb3, g2.trans g3⟩

theorem clone (s : ByteArray) (w : World) (hs : s.size ≤ 281474976710656) : Calls Tryd.prog 41 #[.string s] w fun e w' => e = .returned (.string s) ∧ Below w.heap.size w w' := by
  go_enter Tryd.func41, Tryd.ntmps41
  go_wp2_with (go_at_call 45; refine (Tryd.stringslite_Clone _ _ hs).mono ?_; rintro e w2 ⟨rfl, b2⟩)
  go_ret
  exact ⟨rfl, b2⟩

theorem rest (hR : Ok R) (hb : RB B s R x w) :
    Calls Tryd.prog 34 #[.pointer (some ⟨B, 0, none⟩)] w fun e w' => e = .returned (.string (mk (jn R))) ∧ RB B s [] (x || R.isEmpty) w' ∧ Btw B (B + 1) w w' := by
  have c2 := hb.c2
  have hsz : (mk (jn R)).size ≤ 281474976710656 := by
    have h1 := hR.size
    simp [ByteArray.size]
    omega
  have HW : Hid (Calls Tryd.prog 38 #[.pointer (some ⟨B, 0, none⟩), .bool (!R.isEmpty)] w fun e w' => e = .returned (.tuple #[]) ∧ RB B s R (x || R.isEmpty) w' ∧ Btw B (B + 1) w w') := by
    have := want (!R.isEmpty) hb
    rw [Bool.not_not] at this
    exact this
  generalize (x || R.isEmpty) = y at HW ⊢
  go_enter Tryd.func34, Tryd.ntmps34
  go_wp2_with (first
    | (go_at_call 38; refine HW.out.mono ?_; rintro e w1 ⟨rfl, hb1, g1⟩; have c1 := hb1.c1)
    | (go_at_call 41; refine (clone _ _ hsz).mono ?_; rintro e w2 ⟨rfl, b2⟩; have hb2 := hb1.below b2; have g2 := g1.then b2; have c1 := hb2.c1; have f1 := hb2.f1; have c2 := hb2.c2; have f2 := hb2.f2))
  go_ret
  exact ⟨rfl, (hb2.set 1 _).set 2 _, (g2.set (p := ⟨B, 1, none⟩) (Nat.le_refl _) (Nat.lt_succ_self _) _).set (p := ⟨B, 2, none⟩) (Nat.le_refl _) (Nat.lt_succ_self _) _⟩

theorem zeros (hR : Ok R) (hT : TB B w) (hb : RB B s R x w) :
    Calls Tryd.prog 32 #[.pointer (some ⟨B, 0, none⟩)] w fun e w' => e = .returned (.string (B4.zeros (R0.rd (mk (R.headD []))))) ∧ RB B s R.tail (x || !decide (0 ≤ R0.rd (mk (R.headD []))) || !decide (R0.rd (mk (R.headD [])) ≤ 768)) w' ∧ Btw B (B + 1) w w' := by
  have HN : Hid (Calls Tryd.prog 30 #[.pointer (some ⟨B, 0, none⟩)] w fun e w' => e = .returned (.int .i64 (R0.rd (mk (R.headD [])))) ∧ RB B s R.tail (x || !decide (0 ≤ R0.rd (mk (R.headD [])))) w' ∧ Btw B (B + 1) w w') := number hR hT hb
  generalize R0.rd (mk (R.headD [])) = z at HN ⊢
  generalize (x || !decide (0 ≤ z)) = y at HN ⊢
  go_enter Tryd.func32, Tryd.ntmps32
  go_wp2_with (first
    | (go_at_call 30; refine HN.out.mono ?_; rintro e w1 ⟨rfl, hb1, g1⟩)
    | (go_at_call 38; refine (want _ hb1).mono ?_; rintro e w2 ⟨rfl, hb2, g2⟩)
    | (go_at_call 40; refine (B4.impl_Zeros _ _).mono ?_; rintro e w3 ⟨rfl, b3⟩; have hb3 := hb2.below b3))
  go_ret
  exact ⟨rfl, hb3, (g1.trans g2).then b3⟩

/-- Nothing has turned but a block, and new ones. -/
structure Chg (B : Nat) (w w' : World) : Prop where
  os : w'.os = w.os
  tape : w'.tape = w.tape
  output : w'.output = w.output
  size : w.heap.size ≤ w'.heap.size
  block : ∀ k, k < w.heap.size → k ≠ B → w'.heap[k]? = w.heap[k]?
section
variable {W W' : World}
theorem Chg.refl (B : Nat) (w : World) : Chg B w w := ⟨rfl, rfl, rfl, Nat.le_refl _, fun _ _ _ => rfl⟩
theorem Chg.trans (h : Chg B w W) (k : Chg B W W') : Chg B w W' := ⟨k.os.trans h.os, k.tape.trans h.tape, k.output.trans h.output, Nat.le_trans h.size k.size, fun i hi hn => (k.block i (Nat.lt_of_lt_of_le hi h.size) hn).trans (h.block i hi hn)⟩
theorem Chg.ofBtw (h : Btw B (B + 1) w W) : Chg B w W := ⟨h.os, h.tape, h.output, h.size, fun k hk hn => h.block k hk (by omega)⟩
theorem Chg.step {n : Nat} (h : Chg B w W) (hb : Below n W W') (hn : w.heap.size ≤ n) : Chg B w W' := ⟨hb.os.trans h.os, hb.tape.trans h.tape, hb.output.trans h.output, Nat.le_trans h.size hb.size, fun k hk hne => (hb.block k (by omega)).trans (h.block k hk hne)⟩
theorem Chg.below (h : Chg B w W) {n : Nat} (hn : n ≤ B) (hs : n ≤ w.heap.size) : Below n w W := ⟨h.os, h.tape, h.output, h.size, fun k hk => h.block k (by omega) (by omega)⟩
theorem TB.chg (h : TB B w) (hb : Chg B w W) : TB B W := by
  obtain ⟨w0, h1, h2, h3⟩ := h
  exact ⟨w0, h1, h2, h3.trans (hb.below h2 h3.size)⟩
theorem blk_chg {B' : Nat} {vs : List Value} (h : K0.Blk B' vs w) (hb : Chg B w W) (hx : B' ≠ B) : K0.Blk B' vs W := by
  have e := hb.block B' h.lt hx
  refine ⟨fun j hj => ?_, fun j hj => ?_, Nat.lt_of_lt_of_le h.lt hb.size⟩
  · rw [World.cell?_of_block (a := ⟨B', j, none⟩) e]
    exact h.cell j hj
  · rw [World.frozen?_of_block (a := ⟨B', j, none⟩) e]
    exact h.free j hj
theorem ibuf_btw {base n cap : Nat} {a : Option Addr} {zs : List Int} (h : J0.IBuf base w a n cap zs) (hb : Btw B (B + 1) w W) (hB : B < base) : J0.IBuf base W a n cap zs := by
  refine ⟨h.1, h.2.1, ?_⟩
  rcases h.2.2 with h0 | ⟨g, cap, cur, hv, hg, hc, r⟩
  · exact Or.inl h0
  · refine Or.inr ⟨g, cap, cur, hv, hg, ?_, r⟩
    rw [hb.block g (Array.getElem?_eq_some_iff.1 hc).1 (by omega)]
    exact hc
end

theorem drop_head (k : Nat) (h : k < R.length) : (R.drop k).headD [] = R[k] ∧ (R.drop k).tail = R.drop (k + 1) ∧ (R.drop k).isEmpty = false := by
  rw [List.drop_eq_getElem_cons h]
  exact ⟨rfl, rfl, rfl⟩

/-- Whether one of the first words was none. -/
def bad (x : Bool) (R : List (List UInt8)) (k : Nat) : Bool := x || !((R.take k).all fun p => decide (0 ≤ R0.rd (mk p)))
theorem bad_succ (k : Nat) (h : k < R.length) : (bad x R k || !decide (0 ≤ R0.rd (mk R[k]))) = bad x R (k + 1) := by
  unfold bad
  rw [List.take_succ_eq_append_getElem h, List.all_append]
  simp [Bool.or_assoc]
theorem map_succ (k : Nat) (h : k < R.length) : ((R.take k).map fun p => R0.rd (mk p)) ++ [R0.rd (mk R[k])] = (R.take (k + 1)).map fun p => R0.rd (mk p) := by
  rw [List.take_succ_eq_append_getElem h, List.map_append]
  rfl

set_option maxHeartbeats 2000000 in
theorem numbers (hR : Ok R) (hn : R.length ≤ 1048576) (hT : TB B w) (hb : RB B s R x w) :
    Calls Tryd.prog 33 #[.pointer (some ⟨B, 0, none⟩)] w fun e w' => ∃ a c, e = .returned (.slice a R.length c) ∧ J0.Own w.heap.size w' a (R.map fun p => R0.rd (mk p)) ∧ RB B s [] (bad x R R.length) w' ∧ Chg B w w' := by
  have hB := hb.lt
  go_enter Tryd.func33, Tryd.ntmps33
  go_wp2
  go_loopw [3] (fun v w' => ∃ k : Nat, k ≤ R.length ∧ (∃ a c, v = .slice a k c ∧ J0.IBuf w.heap.size w' a k c ((R.take k).map fun p => R0.rd (mk p))) ∧ RB B s (R.drop k) (bad x R k) w' ∧ TB B w' ∧ Chg B w w') (fun v _ => R.length - (match v with | .slice _ n _ => n | _ => 0))
  case atStart => exact ⟨0, Nat.zero_le _, ⟨_, _, rfl, J0.ibuf_made w (Nat.le_refl _)⟩, by simpa [bad] using hb.alloc _, hT.below (K0.below_new _ _), (Chg.refl _ _).step (K0.below_new _ _) (Nat.le_refl _)⟩
  case round =>
    obtain ⟨k, hk, ⟨a, c, rfl, hbuf⟩, hblk, hTB, hch⟩ := hrel
    by_cases hlt : k < R.length
    · obtain ⟨d1, d2, d3⟩ := drop_head k hlt
      have c2 := hblk.c2
      rw [d3] at c2
      have HN : Hid (Calls Tryd.prog 30 #[.pointer (some ⟨B, 0, none⟩)] wr fun e w' => e = .returned (.int .i64 (R0.rd (mk R[k]))) ∧ RB B s (R.drop (k + 1)) (bad x R (k + 1)) w' ∧ Btw B (B + 1) wr w') := by
        have := number (hR.drop k) hTB hblk
        rw [d1, d2, bad_succ k hlt] at this
        exact this
      have HM : Hid (((R.take k).map fun p => R0.rd (mk p)) ++ [R0.rd (mk R[k])] = (R.take (k + 1)).map fun p => R0.rd (mk p)) := map_succ k hlt
      have hB2 : w.heap.size ≤ wr.heap.size := hch.size
      generalize R0.rd (mk R[k]) = z at HN HM
      clear d1 d2 d3 hblk
      go_wp2_with (first
        | (go_at_call 30; refine HN.out.mono ?_; rintro e w1 ⟨rfl, hb1, g1⟩; have hbuf1 := ibuf_btw hbuf g1 hB; have s1 := g1.size)
        | (at_builtin; refine J0.append_int rfl (.tmp 10) (.tmp 13) rfl hbuf1 z (by rfl) (by rfl) (by omega) (by omega) ?_; intro g2 cap2 w2 hbuf2 b2))
      go_roundw
      case rel => exact ⟨k + 1, by omega, ⟨_, _, rfl, by rw [← HM.out]; exact hbuf2⟩, J0.blk_keep hb1 b2 hB, ⟨_, (hTB.btw g1).choose_spec.1, (hTB.btw g1).choose_spec.2.1, (hTB.btw g1).choose_spec.2.2.trans (b2.mono (Nat.le_trans (hTB.btw g1).choose_spec.2.1 (Nat.le_of_lt hB)))⟩, (hch.trans (Chg.ofBtw g1)).step b2 (Nat.le_refl _)⟩
      case measure => simp; omega
    · obtain rfl : k = R.length := by omega
      have c2 := hblk.c2
      rw [List.drop_length] at c2 hblk
      rw [List.take_length] at hbuf
      go_wp2
      go_ret
      exact ⟨_, _, rfl, hbuf.own, hblk, hch⟩
end Go.Proofs.YtjajclifjojblaaDoor.RY
