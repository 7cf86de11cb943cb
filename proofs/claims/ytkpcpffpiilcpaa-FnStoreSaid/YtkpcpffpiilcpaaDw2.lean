/- Contracts of the draws of chapter 2: what is drawn lies in its bounds, and only new memory is written. -/
import Derived.Test.YtkpcpffpiilcpaaDw1
import Derived.Deep.RegionHeld3
namespace Go.Proofs.Ytkpcpffpiilcpaa.C1
open Go.ChangeShapes Go.WideShapes Go.ChangeAt Go.RowKit C0
set_option linter.unusedVariables false
set_option linter.unusedSimpArgs false
set_option maxRecDepth 10000

/-- A cursor, a device that was drawn, the place of the answer. -/
structure De (w0 w : World) (c : Nat) (a : Option Addr) (len cap R B : Nat) (x y : ByteArray) (W : World) : Prop where
  st : St w0 W c a len cap
  res : K0.Blk R [.string ⟨#[]⟩, .string ⟨#[]⟩] W
  dev : K0.Blk B [.string x, .string y] W
  ne : R ≠ c ∧ B ≠ c ∧ R ≠ B
  old : w.heap.size ≤ R ∧ w.heap.size ≤ c
  bel : Below w.heap.size w W

section
variable {w0 w W W' : World} {c : Nat} {a : Option Addr} {len cap R B : Nat} {x y : ByteArray}

theorem De.grown (h : De w0 w c a len cap R B x y W) (s : St w0 W' c a len cap) (g : W.grownBy W' (some c)) : De w0 w c a len cap R B x y W' :=
  ⟨s, M0.blk_grown h.res g h.ne.1, M0.blk_grown h.dev g h.ne.2.1, h.ne, h.old, I4.below_grown h.bel g (fun g' e => by obtain rfl := Option.some.inj e; exact h.old.2) h.bel.size⟩

theorem De.below (h : De w0 w c a len cap R B x y W) (hb : Below W.heap.size W W') : De w0 w c a len cap R B x y W' :=
  ⟨h.st.below hb, h.res.below hb, h.dev.below hb, h.ne, h.old, h.bel.trans (hb.mono h.bel.size)⟩

theorem De.drew (h : De w0 w c a len cap R B x y W) : De w0 w c a len cap R B x y W.drew := h.below (K0.below_drewN (Below.refl _ _) 1)
theorem De.alloc (h : De w0 w c a len cap R B x y W) (o : Obj) : De w0 w c a len cap R B x y (W.alloc o) := h.below (K0.below_new _ _)

theorem De.fin (h : De w0 w c a len cap R B x y W) (u v : Value) : Below w.heap.size w ((W.setCell ⟨R, 0, none⟩ u).setCell ⟨R, 1, none⟩ v) :=
  (h.bel.setCell (p := ⟨R, 0, none⟩) h.old.1 _).setCell (p := ⟨R, 1, none⟩) h.old.1 _

theorem de_new {w1 w2 : World} (s1 : St (w.alloc (.cells #[.string ⟨#[]⟩, .string ⟨#[]⟩] 25)) w1 c a len cap) (s2 : St (w.alloc (.cells #[.string ⟨#[]⟩, .string ⟨#[]⟩] 25)) w2 c a len cap) :
    De (w.alloc (.cells #[.string ⟨#[]⟩, .string ⟨#[]⟩] 25)) w c a len cap w.heap.size w2.heap.size x y (w2.alloc (.cells #[.string x, .string y] 25)) := by
  have k2 := (K0.blk_new [.string ⟨#[]⟩, .string ⟨#[]⟩] w 25).below s2.bel
  have hb := K0.below_new w2 (.cells #[.string x, .string y] 25)
  have l1 := s2.new
  have l2 := s2.cur.lt
  simp only [World.size_alloc] at l1
  have hbw : Below w.heap.size w w2 := (K0.below_new w _).trans (s2.bel.mono (by simp))
  exact ⟨s2.below hb, k2.below hb, K0.blk_new [.string x, .string y] w2 25, ⟨by omega, by omega, by omega⟩, ⟨Nat.le_refl _, by omega⟩, hbw.trans (hb.mono hbw.size)⟩
end

variable {w : World} {a : Option Addr} {len cap : Nat}

theorem wf64 {z : Int} (h0 : -9223372036854775808 ≤ z) (h1 : z ≤ 9223372036854775807) : (Lit.int .i64 z).wf = true := wf_of z h0 h1
theorem isInt {z : Int} (h0 : -9223372036854775808 ≤ z) (h1 : z ≤ 9223372036854775807) : IsInt (.int .i64 z) := ⟨z, wf64 h0 h1, rfl⟩
theorem of_all {C : Array Value} {Q : Value → Prop} (h : ∀ v ∈ C.toList, Q v) : ∀ j (hj : j < C.size), Q C[j] := fun j hj => h _ (by simp)

theorem sints (x : Int) (h0 : 0 ≤ x) (h1 : x < 768) : ∀ v ∈ (#[Value.int .i64 0, Value.int .i64 7, Value.int .i64 8, Value.int .i64 760, Value.int .i64 767, Value.int .i64 768, Value.int .i64 (-1), Value.int .i64 x] : Array Value).toList, IsInt v := by
  intro v hv
  simp at hv
  rcases hv with rfl | rfl | rfl | rfl | rfl | rfl | rfl | rfl <;> exact isInt (by omega) (by omega)

theorem nints : ∀ v ∈ (#[Value.int .i64 1, Value.int .i64 2, Value.int .i64 8, Value.int .i64 9, Value.int .i64 60, Value.int .i64 0, Value.int .i64 (-1), Value.int .i64 9223372036854775807] : Array Value).toList, IsInt v := by
  intro v hv
  simp at hv
  rcases hv with rfl | rfl | rfl | rfl | rfl | rfl | rfl | rfl <;> exact isInt (by omega) (by omega)

/-- A pick out of numbers that were laid just now. -/
theorem pickNew {w0 W : World} {c : Nat} {C : Array Value} {cp : Nat} (hcode : Given w0 a len) (h : St w0 W c a len cap) (hlen : len ≤ 1048576) (hC : ∀ v ∈ C.toList, IsInt v) (h0 : 0 < C.size) (h1 : C.size ≤ 100) :
    Calls Try.prog 36 #[.pointer (some ⟨c, 0, none⟩), .slice (some ⟨W.heap.size, 0, none⟩) C.size cp] (W.alloc (.cells C 3)) fun e w' => (∃ z : Int, (Lit.int .i64 z).wf = true ∧ e = .returned (.int .i64 z)) ∧ St w0 w' c a len cap ∧ (W.alloc (.cells C 3)).grownBy w' (some c) :=
  pickInt_any hcode (h.below (K0.below_new _ _)) hlen (Of.new W C 3 IsInt (of_all hC)) (by have := h.cur.lt; omega) h0 h1

theorem draw_DevOf (hcode : Given w a len) (hlen : len ≤ 1048576) :
    Calls Try.prog 13 #[.slice a len cap] w fun e w' => ∃ s : ByteArray, s.size ≤ 1000 ∧ e = .returned (.string s) ∧ Below w.heap.size w w' := by
  have HZ : Hid (∀ (n : Int) W, n ≤ 1000 → Calls Try.prog 46 #[.int .i64 n] W fun e w' => (∃ s : ByteArray, s.size ≤ 1000 ∧ e = .returned (.string s)) ∧ W = w') := fun n W hn => (B4.spec_Zeros n W).mono fun _ _ ⟨he, hb⟩ => ⟨⟨_, by rw [B4.zeros, if_pos (by omega), B4.nulls_size]; omega, he⟩, hb.symm⟩
  go_enter Try.func13, Try.ntmps13
  go_wp2_with (first
    | (go_at_call 34; refine (new_any hcode hlen).mono ?_; rintro e w1 ⟨c, rfl, s1⟩)
    | (go_at_call 37; refine (below_any hcode s1 hlen 3 (by omega) (by omega)).mono ?_; rintro e w2 ⟨⟨x, x0, x1, rfl⟩, s2, g2⟩)
    | (go_at_call 46; refine Calls.mono (HZ.out _ _ ?_) ?_; omega; rintro e w3 ⟨⟨s, hs, rfl⟩, rfl⟩))
  go_ret
  exact ⟨s, hs, rfl, s2.bel⟩

end Go.Proofs.Ytkpcpffpiilcpaa.C1
