/- The contract of impl.readRecord, as the given laws call it. -/
import Derived.Test.YtacalabjclclhaaGet1
namespace Go.Proofs.Ytacalabjclclhaa.G2
open Go.ChangeShapes Go.WideShapes Go.ChangeAt Go.RowKit
set_option linter.unusedVariables false
set_option linter.unusedSimpArgs false
set_option maxRecDepth 10000

open I0 (val vals)

theorem below_of_drew {w w1 : World} {n : Nat} (h : Below (w.drewN n).heap.size (w.drewN n) w1) : Below w.heap.size w w1 := ⟨h.os, h.tape, h.output, h.size, h.block⟩

/-- The record's inode in its box, with its pages. -/
structure Nd (w : World) (B : Nat) (k o s : Int) (a : Option Addr) (zs : List Int) (c : Nat) (W : World) : Prop where
  box : K0.Blk B (vals k o s a zs.length c) W
  own : J0.Own w.heap.size W a zs
  fits : zs.length ≤ c
  bel : Below w.heap.size w W

variable {w W W' : World} {B : Nat} {k o s : Int} {a : Option Addr} {zs : List Int} {c : Nat}

theorem Nd.below (h : Nd w B k o s a zs c W) (hb : Below W.heap.size W W') : Nd w B k o s a zs c W' := ⟨h.box.below hb, h.own.below hb, h.fits, h.bel.trans (hb.mono h.bel.size)⟩

theorem nd_new (hb : Below w.heap.size w W) (hi : J0.IBuf w.heap.size W a zs.length c zs) : Nd w W.heap.size k o s a zs c (W.alloc (.cells #[.int .i64 k, .int .i64 o, .int .i64 s, .slice a zs.length c] 26)) :=
  ⟨K0.blk_new (vals k o s a zs.length c) W 26, hi.own.alloc _, hi.fits, hb.alloc hb.size _⟩

/-- What readRecord answers. -/
def Ans (s : ByteArray) (w : World) (e : Ending) (w' : World) : Prop :=
  Below w.heap.size w w' ∧ ((G0.isI s = false ∧ e = .returned (.tuple #[.nilIface, .bool false])) ∨
    (G0.isI s = true ∧ ∃ a c, e = .returned (.tuple #[I1.rec (B1.byteAt s 0) (val (B1.byteAt s 0) (B1.byteAt s 1) (B6.pairAt s 2) a (G0.pgs s (G0.cnt s)).length c), .bool true]) ∧ J0.Own w.heap.size w' a (G0.pgs s (G0.cnt s)) ∧ (G0.pgs s (G0.cnt s)).length ≤ c))

theorem ans_no {s : ByteArray} {w w' : World} (h : G0.isI s = false) (hb : Below w.heap.size w w') : Ans s w (.returned (.tuple #[.nilIface, .bool false])) w' := ⟨hb, Or.inl ⟨h, rfl⟩⟩

set_option maxHeartbeats 2000000 in
theorem readRecord (s : ByteArray) (w : World) (hs : s.size ≤ 281474976710656) :
    Calls Try.prog 88 #[.string s] w (Ans s w) := by
  have hm : s.size ≤ maxLen := by unfold maxLen; omega
  by_cases h16 : s.size = 16
  · have g16 : ((s.size : Int) != 16) = false := by simp; omega
    have hpa := G0.pairAt_lt s 2
    have hbad := @G0.isI_bad s
    have hof := @G0.isI_of s h16
    have hnot := @G0.isI_not s
    have hans : Ans s w = fun e w' => Below w.heap.size w w' ∧ ((G0.isI s = false ∧ e = .returned (.tuple #[.nilIface, .bool false])) ∨
      (G0.isI s = true ∧ ∃ a c, e = .returned (.tuple #[I1.rec (B1.byteAt s 0) (val (B1.byteAt s 0) (B1.byteAt s 1) (B6.pairAt s 2) a (G0.pgs s (G0.cnt s)).length c), .bool true]) ∧ J0.Own w.heap.size w' a (G0.pgs s (G0.cnt s)) ∧ (G0.pgs s (G0.cnt s)).length ≤ c)) := rfl
    rw [hans]
    clear hans
    have hrp : Hid (∀ W, Calls Try.prog 144 #[.string s, .int .i64 (P0.need (B6.pairAt s 2))] W fun e w' => ∃ a c, e = .returned (.slice a (G0.pgs s (G0.cnt s)).length c) ∧ J0.IBuf W.heap.size w' a (G0.pgs s (G0.cnt s)).length c (G0.pgs s (G0.cnt s)) ∧ Below W.heap.size W w') := fun W => G1.readPages s W h16
    have hlen : (G0.pgs s (G0.cnt s)).length ≤ 281474976710656 := by rw [G0.pgs_length]; have := G0.cnt_le s; omega
    unfold G0.txt at hof hnot
    obtain ⟨Z, hZ⟩ : ∃ Z, G0.pgs s (G0.cnt s) = Z := ⟨_, rfl⟩
    rw [hZ] at hbad hof hnot hrp hlen ⊢
    clear hZ
    by_cases hok : I0.ok (B1.byteAt s 0) (B1.byteAt s 1) (B6.pairAt s 2) Z = true
    · by_cases htx : ((R0.putI (B1.byteAt s 0) (B1.byteAt s 1) (B6.pairAt s 2) Z).toList == s.toList) = true
      · have HI : Hid (G0.isI s = true) := hof htx
        clear hbad hof hnot
        go_enter Try.func88, Try.ntmps88
        go_wp2_with (first
          | (go_at_call 143; refine (B6.impl_PairAt _ _ _ hs).mono ?_; rintro e w0 ⟨rfl, m0, rfl⟩)
          | (go_at_call 96; refine (B1.impl_ByteAt _ _ _ hm).mono ?_; rintro e w' ⟨rfl, rfl⟩)
          | (go_at_call 145; refine (P1.pagesFor _ _ hpa.1 hpa.2).mono ?_; rintro e w' ⟨rfl, rfl⟩)
          | (go_at_call 144; refine (hrp.out _).mono ?_; rintro e w1 ⟨a, c, rfl, hib, b1⟩; have n1 := nd_new (w := w) (k := B1.byteAt s 0) (o := B1.byteAt s 1) (s := B6.pairAt s 2) (below_of_drew b1) hib)
          | (go_at_call 103; refine (I1.recordOf _ _ _ _ _ Z _ hlen n1.fits n1.own.row).mono ?_; rintro e w2 ⟨rfl, b2⟩; have n2 := n1.below b2; have c0 := n2.box.c0; have c1 := n2.box.c1; have c2 := n2.box.c2; have c3 := n2.box.c3)
          | (go_at_call 86; refine (R1.recordText _ _ _ _ _ Z _ hok n2.own.row).mono ?_; rintro e w3 ⟨rfl, b3⟩; have n3 := n2.below b3))
        go_ret2
        exact ⟨n3.bel, Or.inr ⟨HI.out, a, c, rfl, n3.own, n3.fits⟩⟩
      · have htx' : ((R0.putI (B1.byteAt s 0) (B1.byteAt s 1) (B6.pairAt s 2) Z).toList == s.toList) = false := by simpa using htx
        have HI : Hid (G0.isI s = false) := hnot htx'
        clear hbad hof hnot htx
        go_enter Try.func88, Try.ntmps88
        go_wp2_with (first
          | (go_at_call 143; refine (B6.impl_PairAt _ _ _ hs).mono ?_; rintro e w0 ⟨rfl, m0, rfl⟩)
          | (go_at_call 96; refine (B1.impl_ByteAt _ _ _ hm).mono ?_; rintro e w' ⟨rfl, rfl⟩)
          | (go_at_call 145; refine (P1.pagesFor _ _ hpa.1 hpa.2).mono ?_; rintro e w' ⟨rfl, rfl⟩)
          | (go_at_call 144; refine (hrp.out _).mono ?_; rintro e w1 ⟨a, c, rfl, hib, b1⟩; have n1 := nd_new (w := w) (k := B1.byteAt s 0) (o := B1.byteAt s 1) (s := B6.pairAt s 2) (below_of_drew b1) hib)
          | (go_at_call 103; refine (I1.recordOf _ _ _ _ _ Z _ hlen n1.fits n1.own.row).mono ?_; rintro e w2 ⟨rfl, b2⟩; have n2 := n1.below b2; have c0 := n2.box.c0; have c1 := n2.box.c1; have c2 := n2.box.c2; have c3 := n2.box.c3)
          | (go_at_call 86; refine (R1.recordText _ _ _ _ _ Z _ hok n2.own.row).mono ?_; rintro e w3 ⟨rfl, b3⟩; have n3 := n2.below b3))
        go_ret2
        exact ⟨n3.bel, Or.inl ⟨HI.out, rfl⟩⟩
    · have hok' : I0.ok (B1.byteAt s 0) (B1.byteAt s 1) (B6.pairAt s 2) Z = false := by simpa using hok
      have HI : Hid (G0.isI s = false) := hbad hok'
      clear hbad hof hnot hok
      go_enter Try.func88, Try.ntmps88
      go_wp2_with (first
        | (go_at_call 143; refine (B6.impl_PairAt _ _ _ hs).mono ?_; rintro e w0 ⟨rfl, m0, rfl⟩)
        | (go_at_call 96; refine (B1.impl_ByteAt _ _ _ hm).mono ?_; rintro e w' ⟨rfl, rfl⟩)
        | (go_at_call 145; refine (P1.pagesFor _ _ hpa.1 hpa.2).mono ?_; rintro e w' ⟨rfl, rfl⟩)
        | (go_at_call 144; refine (hrp.out _).mono ?_; rintro e w1 ⟨a, c, rfl, hib, b1⟩; have n1 := nd_new (w := w) (k := B1.byteAt s 0) (o := B1.byteAt s 1) (s := B6.pairAt s 2) (below_of_drew b1) hib)
        | (go_at_call 103; refine (I1.recordOf _ _ _ _ _ Z _ hlen n1.fits n1.own.row).mono ?_; rintro e w2 ⟨rfl, b2⟩; have n2 := n1.below b2))
      go_ret2
      exact ⟨n2.bel, Or.inl ⟨HI.out, rfl⟩⟩
  · have g16 : ((s.size : Int) != 16) = true := by simp; omega
    have HI : Hid (G0.isI s = false) := G0.isI_no h16
    go_enter Try.func88, Try.ntmps88
    go_wp2
    go_ret2
    exact ans_no HI.out (Below.refl _ _)
end Go.Proofs.Ytacalabjclclhaa.G2
