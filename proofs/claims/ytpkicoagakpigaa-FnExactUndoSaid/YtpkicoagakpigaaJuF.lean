/- Joined texts: plain facts and contracts, as each part says. -/
import Derived.Test.YtpkicoagakpigaaJuE
import Derived.Deep.RegionLaw
import Derived.OrdersHeld
import Derived.WalkKit
import Derived.Handy
import Derived.Test.YtpkicoagakpigaaJuB
import Derived.Shelf.Abstract
import Derived.Deep.QuietTactic
import Derived.BigQuiet
import Derived.Deep.RegionHeld3
import Derived.Test.YtpkicoagakpigaaJuC
import Derived.Laws.MakeOwn
import Derived.Deep.SlicePairs

/- The contract of spec.GetInode, as the given laws call it. -/
namespace Go.Proofs.Ytpkicoagakpigaa.G4
open Go.ChangeShapes Go.WideShapes Go.ChangeAt Go.RowKit
set_option linter.unusedVariables false
set_option linter.unusedSimpArgs false
set_option maxRecDepth 10000

open I0 (val vals)
open G3 (Ans ans_no ans_yes)

/-- A call of two arguments, as a step of a region that draws its order. -/
theorem step_call2 {P : Program} {ops : Array Oper} {o : Oper} {A : Act} {W : World} {K : Act → World → Prop} {Q : Exit → Act → World → Prop} {E : Prop} {f : Nat} (hgd : o.guard = none) (x y : Operand) (ts : Array TypeId)
    (hop : o.op = .call { callee := .value (.func f), args := #[x, y], argTypes := ts }) (eg : ∀ args w, (callFunc f args).run P w = .ok (.enter f args) w) (vx vy : Value) (hx : A.eval x = vx) (hy : A.eval y = vy)
    (hc : Calls P f #[vx, vy] W fun e w' => ∃ u, e = .returned u ∧ K (A.put o.dst u) w') : if Region.wanted o (yielded ops A.tmps) = true then Oper.wp P o A W K Q else E := by
  have hw : Region.wanted o (yielded ops A.tmps) = true := by simp [Region.wanted, hgd]
  rw [if_pos hw]
  have he : (execOp A.eval o).run P W = .ok (.enter f #[vx, vy]) W := by
    subst hx
    subst hy
    simp [execOp, hop, resolve, go_sem, invoke, eg]
  unfold Oper.wp
  rw [he]
  refine Calls.mono hc ?_
  rintro e w' ⟨u, rfl, h⟩
  exact h

/-- The two blocks of GetInode, and the pages read so far. -/
structure Sp (w : World) (k o s : Int) (a : Option Addr) (n c : Nat) (zs : List Int) (W : World) : Prop where
  res : K0.Blk w.heap.size (vals 0 0 0 none 0 0) W
  nd : K0.Blk (w.heap.size + 1) (vals k o s a n c) W
  buf : J0.IBuf (w.heap.size + 2) W a n c zs
  lt : w.heap.size + 2 ≤ W.heap.size
  bel : Below w.heap.size w W

variable {w W W' : World} {k o s : Int} {a : Option Addr} {n c : Nat} {zs : List Int}

theorem Sp.below (h : Sp w k o s a n c zs W) (hb : Below W.heap.size W W') : Sp w k o s a n c zs W' := ⟨h.res.below hb, h.nd.below hb, h.buf.below hb, Nat.le_trans h.lt hb.size, h.bel.trans (hb.mono h.bel.size)⟩
theorem Sp.drewN (h : Sp w k o s a n c zs W) (m : Nat) : Sp w k o s a n c zs (W.drewN m) := ⟨h.res.drewN m, h.nd.drewN m, h.buf.drewN m, h.lt, K0.below_drewN h.bel m⟩

theorem sp_new (w : World) (k o s : Int) (m : Nat) : Sp w k o s none 0 0 [] (((w.alloc (.cells #[.int .i64 0, .int .i64 0, .int .i64 0, .slice none 0 0] 26)).drewN m).alloc (.cells #[.int .i64 k, .int .i64 o, .int .i64 s, .slice none 0 0] 26)) :=
  ⟨((K0.blk_new (vals 0 0 0 none 0 0) w 26).drewN m).alloc _, K0.blk_at (vals k o s none 0 0) ((w.alloc _).drewN m) 26 (by simp), J0.ibuf_nil _, by simp, (K0.below_drewN ((Below.refl _ _).alloc (Nat.le_refl _) _) m).alloc (by simp) _⟩

/-- Behind an append and the store of what it made. -/
theorem Sp.step (h : Sp w k o s a n c zs W) {g' c' : Nat} {z : Int} (hb : J0.IBuf (w.heap.size + 2) W' (some ⟨g', 0, none⟩) (n + 1) c' (zs ++ [z])) (hl : Below (w.heap.size + 2) W W') :
    Sp w k o s (some ⟨g', 0, none⟩) (n + 1) c' (zs ++ [z]) (W'.setCell ⟨w.heap.size + 1, 3, none⟩ (.slice (some ⟨g', 0, none⟩) (n + 1) c')) := by
  have r1 := J0.blk_keep h.res hl (by omega)
  have n1 := J0.blk_keep h.nd hl (by omega)
  refine ⟨r1.setOther (by omega) 3 _, n1.set 3 _, ⟨hb.1, hb.2.1, ?_⟩, ?_, (h.bel.trans (hl.mono (by omega))).setCell (p := ⟨w.heap.size + 1, 3, none⟩) (by simp) _⟩
  · rcases hb.2.2 with h0 | ⟨g, cap, cur, hv, hg, hc, r⟩
    · exact Or.inl h0
    · refine Or.inr ⟨g, cap, cur, hv, hg, ?_, r⟩
      rw [Below.heap_setCell W' ⟨w.heap.size + 1, 3, none⟩ _ g (by show g ≠ w.heap.size + 1; omega)]
      exact hc
  · have := Nat.le_trans h.lt hl.size
    simpa [World.setCell] using this

theorem Sp.at3 (h : Sp w k o s a n c zs W) (hl : Below (w.heap.size + 2) W W') : W'.cell? ⟨w.heap.size + 1, 3, none⟩ = some (.slice a n c) ∧ W'.frozen? ⟨w.heap.size + 1, 3, none⟩ = false := by
  have n1 := J0.blk_keep h.nd hl (by omega)
  exact ⟨n1.c3, n1.f3⟩

theorem Sp.done (h : Sp w k o s a n c zs W) (x y z u : Value) : J0.Own w.heap.size ((((W.setCell ⟨w.heap.size, 0, none⟩ x).setCell ⟨w.heap.size, 1, none⟩ y).setCell ⟨w.heap.size, 2, none⟩ z).setCell ⟨w.heap.size, 3, none⟩ u) a zs ∧
    Below w.heap.size w ((((W.setCell ⟨w.heap.size, 0, none⟩ x).setCell ⟨w.heap.size, 1, none⟩ y).setCell ⟨w.heap.size, 2, none⟩ z).setCell ⟨w.heap.size, 3, none⟩ u) :=
  ⟨((((h.buf.own.set (by omega) 0 x).set (by omega) 1 y).set (by omega) 2 z).set (by omega) 3 u).mono (by omega),
   (((h.bel.setCell (p := ⟨w.heap.size, 0, none⟩) (Nat.le_refl _) _).setCell (p := ⟨w.heap.size, 1, none⟩) (Nat.le_refl _) _).setCell (p := ⟨w.heap.size, 2, none⟩) (Nat.le_refl _) _).setCell (p := ⟨w.heap.size, 3, none⟩) (Nat.le_refl _) _⟩

set_option maxHeartbeats 4000000 in
theorem spec_GetInode (s : ByteArray) (w : World) (hs : s.size ≤ 281474976710656) : Calls Try.prog 16 #[.string s] w (Ans s w) := by
  have hm : s.size ≤ maxLen := by unfold maxLen; omega
  have hpa := G0.pairAt_lt s 2
  have hcl := G0.cnt_le s
  have hct := G0.cnt_lt s
  have sp0 := sp_new w (B1.byteAt s 0) (B1.byteAt s 1) (B6.pairAt s 2)
  have heg : ∀ args w, (callFunc 62 args).run Try.prog w = .ok (.enter 62 args) w := enters_of Try.func62 (by kernel_rfl) rfl
  have HY : Hid (∀ a c w', s.size = 16 → ((R0.putI (B1.byteAt s 0) (B1.byteAt s 1) (B6.pairAt s 2) (G0.pgs s (G0.cnt s))).toList == s.toList) = true → J0.Own w.heap.size w' a (G0.pgs s (G0.cnt s)) → (G0.pgs s (G0.cnt s)).length ≤ c → Below w.heap.size w w' → Ans s w (.returned (.tuple #[val (B1.byteAt s 0) (B1.byteAt s 1) (B6.pairAt s 2) a (G0.pgs s (G0.cnt s)).length c, .bool true])) w') := fun a c w' h16 htx ho hl hb => ans_yes (G0.isI_of h16 htx) ho hl hb
  have HN : Hid (∀ w', ((R0.putI (B1.byteAt s 0) (B1.byteAt s 1) (B6.pairAt s 2) (G0.pgs s (G0.cnt s))).toList == s.toList) = false → Below w.heap.size w w' → Ans s w (.returned (.tuple #[val 0 0 0 none 0 0, .bool false])) w') := fun w' htx hb => ans_no (G0.isI_not htx) hb
  have HZ : Hid (∀ w', ¬ s.size = 16 → Below w.heap.size w w' → Ans s w (.returned (.tuple #[val 0 0 0 none 0 0, .bool false])) w') := fun w' h16 hb => ans_no (G0.isI_no h16) hb
  have hlen : (G0.pgs s (G0.cnt s)).length = G0.cnt s := G0.pgs_length _ _
  obtain ⟨R, hR⟩ : ∃ R, Ans s w = R := ⟨_, rfl⟩
  rw [hR] at HY HN HZ ⊢
  clear hR
  go_enter Try.func16, Try.ntmps16
  go_wp2_with (first
    | (go_at_call 62; refine (B1.spec_ByteAt _ _ _ hm).mono ?_; rintro e w' ⟨rfl, rfl⟩)
    | (go_at_call 63; refine (B6.spec_PairAt _ _ _ hs).mono ?_; rintro e w0 ⟨rfl, m0, rfl⟩))
  go_loopw [5] (fun i w' => ∃ (k c : Nat) (a : Option Addr), k ≤ G0.cnt s ∧ i = .int .i64 (k : Int) ∧ Sp w (B1.byteAt s 0) (B1.byteAt s 1) (B6.pairAt s 2) a k c (G0.pgs s k) w') (fun i _ => 12 - (intOf i).toNat)
  case atStart => exact ⟨0, 0, none, Nat.zero_le _, rfl, sp0 m0⟩
  case round =>
    obtain ⟨k, c, a, hk, rfl, sp⟩ := hrel
    clear sp0
    have x0 := sp.nd.c0
    have x1 := sp.nd.c1
    have x2 := sp.nd.c2
    have x3 := sp.nd.c3
    have x4 := sp.nd.f3
    have hnd : Hid (∀ W, Calls Try.prog 64 #[.int .i64 (B6.pairAt s 2)] W fun e w' => e = .returned (.int .i64 (P0.need (B6.pairAt s 2))) ∧ W = w') := fun W => (P1.l03Need _ _ hpa.1 hpa.2).mono fun _ _ h => ⟨h.1, h.2.symm⟩
    by_cases hlt : k < G0.cnt s
    · obtain ⟨h1, h2⟩ := (hct k).1 hlt
      have h2' : (k : Int) < 12 := by omega
      have hwr : IntKind.i64.wrap (4 + (k : Int)) = 4 + (k : Int) := by rw [IntKind.wrap_i64]; omega
      have HS : Hid (G0.pgs s k ++ [B1.byteAt s (4 + (k : Int))] = G0.pgs s (k + 1)) := G0.pgs_succ s k
      have xa := (sp.nd.alloc (.cells #[.int .i64 (B1.byteAt s (4 + (k : Int)))] 3)).c3
      have hby : Hid (∀ W, Calls Try.prog 62 #[.string s, .int .i64 (4 + (k : Int))] W fun e w' => e = .returned (.int .i64 (B1.byteAt s (4 + (k : Int)))) ∧ W = w') := fun W => (B1.spec_ByteAt _ _ _ hm).mono fun _ _ h => ⟨h.1, h.2.symm⟩
      clear hct HY HN HZ
      go_wp2_with (go_at_call 64; refine (hnd.out _).mono ?_; rintro e w' ⟨rfl, rfl⟩)
      go_region_law (first
        | (refine step_call2 rfl (.tmp 26) (.tmp 28) _ rfl heg (.string s) (.int .i64 (4 + (k : Int))) (by simp [Act.eval, Act.put]) (by simp [Act.eval, Act.put]) ((hby.out _).mono ?_); rintro e w' ⟨rfl, rfl⟩; refine ⟨_, rfl, ?_⟩)
        | (refine J0.step_int (w := wr.drew) rfl (.tmp 25) (.tmp 30) rfl sp.buf.drew _ (by simp [Act.eval, Act.put]) (by simp [Act.eval, Act.put]) (by omega) sp.lt ?_; intro g1 cap1 w1 hbuf1 bel1; have y3 := (sp.drewN 1).at3 bel1; have y4 := y3.2; have y3 := y3.1))
      all_goals
        go_wp2
        go_roundw
        case rel => exact ⟨k + 1, cap1, some ⟨g1, 0, none⟩, by omega, by go_num, by rw [← HS.out]; exact (sp.drewN 1).step hbuf1 bel1⟩
        case measure => simp [intOf]; omega
    · obtain rfl : k = G0.cnt s := by omega
      have hpi : Hid (Calls Try.prog 23 #[val (B1.byteAt s 0) (B1.byteAt s 1) (B6.pairAt s 2) a (G0.cnt s) c] wr fun e w' => e = .returned (.string (R0.putI (B1.byteAt s 0) (B1.byteAt s 1) (B6.pairAt s 2) (G0.pgs s (G0.cnt s)))) ∧ Below wr.heap.size wr w') := by
        have := R2.spec_PutInode (B1.byteAt s 0) (B1.byteAt s 1) (B6.pairAt s 2) a c (G0.pgs s (G0.cnt s)) wr (by omega) (by rw [hlen]; exact sp.buf.fits) sp.buf.own.row
        rw [hlen] at this
        exact this
      rw [hlen] at HY
      have HE : Hid (((G0.cnt s : Int) < P0.need (B6.pairAt s 2) ∧ ¬ (G0.cnt s : Int) < 12) ∨ ¬ (G0.cnt s : Int) < P0.need (B6.pairAt s 2)) := by
        show _ ∨ _
        by_cases h : (G0.cnt s : Int) < P0.need (B6.pairAt s 2)
        · left
          refine ⟨h, fun h2 => ?_⟩
          exact hlt ((hct _).2 ⟨h, by omega⟩)
        · exact Or.inr h
      have hfit := sp.buf.fits
      have r0 := sp.res.c0
      have r1 := sp.res.c1
      have r2 := sp.res.c2
      have r3 := sp.res.c3
      have q0 := sp.res.f0
      have q1 := sp.res.f1
      have q2 := sp.res.f2
      have q3 := sp.res.f3
      clear hct hlt hk hlen
      have e3 : decide ((G0.cnt s : Int) < P0.need (B6.pairAt s 2)) = false ∨ ((G0.cnt s : Int) < P0.need (B6.pairAt s 2) ∧ decide ((G0.cnt s : Int) < 12) = false) := by
        rcases HE.out with ⟨h1, h2⟩ | h1
        · exact Or.inr ⟨h1, by simpa using h2⟩
        · exact Or.inl (by simpa using h1)
      clear HE
      rcases e3 with e3 | ⟨e4, e3⟩
      all_goals
        by_cases h16 : s.size = 16
        · have g16 : ((s.size : Int) != 16) = false := by simp; omega
          by_cases htx : ((R0.putI (B1.byteAt s 0) (B1.byteAt s 1) (B6.pairAt s 2) (G0.pgs s (G0.cnt s))).toList == s.toList) = true
          · go_wp2_with (first
              | (go_at_call 64; refine (hnd.out _).mono ?_; rintro e w' ⟨rfl, rfl⟩)
              | (go_at_call 23; refine hpi.out.mono ?_; rintro e w2 ⟨rfl, b2⟩; have sp2 := sp.below b2; have y0 := sp2.nd.c0; have y1 := sp2.nd.c1; have y2 := sp2.nd.c2; have y3 := sp2.nd.c3; have r0 := sp2.res.c0; have r1 := sp2.res.c1; have r2 := sp2.res.c2; have r3 := sp2.res.c3; have q0 := sp2.res.f0; have q1 := sp2.res.f1; have q2 := sp2.res.f2; have q3 := sp2.res.f3))
            have q := sp2.res.put4 (.int .i64 (B1.byteAt s 0)) (.int .i64 (B1.byteAt s 1)) (.int .i64 (B6.pairAt s 2)) (.slice a (G0.cnt s) c)
            have d := sp2.done (.int .i64 (B1.byteAt s 0)) (.int .i64 (B1.byteAt s 1)) (.int .i64 (B6.pairAt s 2)) (.slice a (G0.cnt s) c)
            exact bodyPost_ret (v := .tuple #[val (B1.byteAt s 0) (B1.byteAt s 1) (B6.pairAt s 2) a (G0.cnt s) c, .bool true]) (by simp [results, Try.results16, go_sem, q.c0, q.c1, q.c2, q.c3]) rfl (HY.out _ _ _ h16 htx d.1 hfit d.2)
          · have htx' : ((R0.putI (B1.byteAt s 0) (B1.byteAt s 1) (B6.pairAt s 2) (G0.pgs s (G0.cnt s))).toList == s.toList) = false := by simpa using htx
            go_wp2_with (first
              | (go_at_call 64; refine (hnd.out _).mono ?_; rintro e w' ⟨rfl, rfl⟩)
              | (go_at_call 23; refine hpi.out.mono ?_; rintro e w2 ⟨rfl, b2⟩; have sp2 := sp.below b2; have r0 := sp2.res.c0; have r1 := sp2.res.c1; have r2 := sp2.res.c2; have r3 := sp2.res.c3; have q0 := sp2.res.f0; have q1 := sp2.res.f1; have q2 := sp2.res.f2; have q3 := sp2.res.f3))
            have q := sp2.res.put4 (.int .i64 0) (.int .i64 0) (.int .i64 0) (.slice none 0 0)
            have d := sp2.done (.int .i64 0) (.int .i64 0) (.int .i64 0) (.slice none 0 0)
            exact bodyPost_ret (v := .tuple #[val 0 0 0 none 0 0, .bool false]) (by simp [results, Try.results16, go_sem, q.c0, q.c1, q.c2, q.c3]) rfl (HN.out _ htx' d.2)
        · have g16 : ((s.size : Int) != 16) = true := by simp; omega
          go_wp2_with (go_at_call 64; refine (hnd.out _).mono ?_; rintro e w' ⟨rfl, rfl⟩)
          have q := sp.res.put4 (.int .i64 0) (.int .i64 0) (.int .i64 0) (.slice none 0 0)
          have d := sp.done (.int .i64 0) (.int .i64 0) (.int .i64 0) (.slice none 0 0)
          exact bodyPost_ret (v := .tuple #[val 0 0 0 none 0 0, .bool false]) (by simp [results, Try.results16, go_sem, q.c0, q.c1, q.c2, q.c3]) rfl (HZ.out _ h16 d.2)
end Go.Proofs.Ytpkicoagakpigaa.G4

/- A call that alone may come up in a region that draws its order. -/
namespace Go.Proofs.Ytpkicoagakpigaa.Y0
open Go.RowKit
set_option linter.unusedVariables false
set_option linter.unusedSimpArgs false
variable {P : Program} {Q : Exit → Act → World → Prop} {ops : Array Oper}

theorem of_if {c : Prop} [Decidable c] {p q : Prop} (hc : c) (hp : p) : if c then p else q := by rw [if_pos hc]; exact hp

/-- A call of one argument that alone may come up. -/
theorem one_call {S : World → Prop} {a : Act} {w : World} {i f : Nat} {o : Oper} {listed : Array Bool} {fuel : Nat} {md : Region.Mode} (hr : Region.ready md ops listed = [i]) (ho : ops[i]? = some o) (hg : o.guard = none)
    (x : Operand) (ts : Array TypeId) (hop : o.op = .call { callee := .value (.func f), args := #[x], argTypes := ts }) (v : Value) (hx : a.eval x = v) (eg : ∀ args w, (callFunc f args).run P w = .ok (.enter f args) w)
    (hc : Calls P f #[v] w fun e w' => ∃ u, e = .returned u ∧ S w' ∧ wpAnyH P md ops Q S fuel (listed.setIfInBounds i true) (a.put o.dst u) w') : wpAnyH P md ops Q S (fuel + 1) listed a w := by
  refine wpAnyH_all hr (by simp) ?_
  intro j hj
  obtain rfl : j = i := by simpa using hj
  unfold wpOp
  rw [ho]
  refine of_if (by rw [Region.wanted, hg]) (.inl ?_)
  have he : (execOp a.eval o).run P w = .ok (.enter f #[v]) w := by
    subst hx
    simp [execOp, hop, resolve, go_sem, invoke, eg]
  unfold Oper.wp
  rw [he]
  refine Calls.mono hc ?_
  rintro e w' ⟨u, rfl, h⟩
  exact h

/-- .. where it is guarded, and the guard holds. -/
theorem one_callw {S : World → Prop} {a : Act} {w : World} {i f : Nat} {o : Oper} {listed : Array Bool} {fuel : Nat} {md : Region.Mode} (hr : Region.ready md ops listed = [i]) (ho : ops[i]? = some o) (hw : Region.wanted o (yielded ops a.tmps) = true)
    (x : Operand) (ts : Array TypeId) (hop : o.op = .call { callee := .value (.func f), args := #[x], argTypes := ts }) (v : Value) (hx : a.eval x = v) (eg : ∀ args w, (callFunc f args).run P w = .ok (.enter f args) w)
    (hc : Calls P f #[v] w fun e w' => ∃ u, e = .returned u ∧ S w' ∧ wpAnyH P md ops Q S fuel (listed.setIfInBounds i true) (a.put o.dst u) w') : wpAnyH P md ops Q S (fuel + 1) listed a w := by
  refine wpAnyH_all hr (by simp) ?_
  intro j hj
  obtain rfl : j = i := by simpa using hj
  unfold wpOp
  rw [ho]
  refine of_if hw (.inl ?_)
  have he : (execOp a.eval o).run P w = .ok (.enter f #[v]) w := by
    subst hx
    simp [execOp, hop, resolve, go_sem, invoke, eg]
  unfold Oper.wp
  rw [he]
  refine Calls.mono hc ?_
  rintro e w' ⟨u, rfl, h⟩
  exact h

/-- Another operation that alone may come up. -/
theorem one_plain {S : World → Prop} {a : Act} {w w' : World} {u : Value} {i : Nat} {o : Oper} {listed : Array Bool} {fuel : Nat} {md : Region.Mode} (hr : Region.ready md ops listed = [i]) (ho : ops[i]? = some o) (hw : Region.wanted o (yielded ops a.tmps) = true)
    (he : (execOp a.eval o).run P w = .ok (.value u) w') (hS : S w') (h : wpAnyH P md ops Q S fuel (listed.setIfInBounds i true) (a.put o.dst u) w') : wpAnyH P md ops Q S (fuel + 1) listed a w := by
  refine wpAnyH_all hr (by simp) ?_
  intro j hj
  obtain rfl : j = i := by simpa using hj
  unfold wpOp
  rw [ho]
  refine of_if hw (.inl ?_)
  unfold Oper.wp
  rw [he]
  exact ⟨hS, h⟩

/-- .. a store. -/
theorem one_skip {S : World → Prop} {a : Act} {w w' : World} {i : Nat} {o : Oper} {listed : Array Bool} {fuel : Nat} {md : Region.Mode} (hr : Region.ready md ops listed = [i]) (ho : ops[i]? = some o) (hw : Region.wanted o (yielded ops a.tmps) = true)
    (he : (execOp a.eval o).run P w = .ok .skip w') (hS : S w') (h : wpAnyH P md ops Q S fuel (listed.setIfInBounds i true) (a.put o.dst undef) w') : wpAnyH P md ops Q S (fuel + 1) listed a w := by
  refine wpAnyH_all hr (by simp) ?_
  intro j hj
  obtain rfl : j = i := by simpa using hj
  unfold wpOp
  rw [ho]
  refine of_if hw (.inl ?_)
  unfold Oper.wp
  rw [he]
  exact ⟨hS, h⟩
end Go.Proofs.Ytpkicoagakpigaa.Y0

/- Contracts of impl.isTaken and impl.dirOk, as the given laws call them. -/
namespace Go.Proofs.Ytpkicoagakpigaa.T1
open Go.ChangeShapes Go.WideShapes Go.ChangeAt Go.RowKit
set_option linter.unusedVariables false
set_option linter.unusedSimpArgs false
set_option maxRecDepth 10000

theorem ret_bool {a b : Bool} (h : a = b) : Ending.returned (.bool a) = .returned (.bool b) := by rw [h]

set_option maxHeartbeats 1000000 in
theorem isTaken (b off n c : Nat) (es : List T0.Ent) (x : Int) (s : ByteArray) (w : World) (hn : n ≤ es.length) (hbig : n ≤ 1048576) (hlt0 : b < w.heap.size)
    (hc : ∀ j, j < es.length → w.cell? ⟨b, off + j * 2, none⟩ = some (.int .i64 (T0.ent es j).1) ∧ w.cell? ⟨b, off + j * 2 + 1, none⟩ = some (.string (T0.ent es j).2)) :
    Calls Try.prog 151 #[.slice (some ⟨b, off, none⟩) n c, .agg #[.int .i64 x, .string s]] w fun e w' => e = .returned (.bool (T0.taken (es.take n) (x, s))) ∧ Below w.heap.size w w' := by
  have h0 := E2.bx_new x s w 33
  go_enter Try.func151, Try.ntmps151
  go_wp2
  go_loopw [9] (fun i w' => ∃ k : Nat, k ≤ n ∧ T0.taken (es.take k) (x, s) = false ∧ i = .int .i64 k ∧ E2.Bx w.heap.size w x s w') (fun i _ => n - (intOf i).toNat)
  case atStart => exact ⟨0, Nat.zero_le _, rfl, rfl, h0⟩
  case round =>
    obtain ⟨k, hk, hno, rfl, hbx⟩ := hrel
    clear h0
    by_cases hlt : k < n
    · have y1 := (hbx.bel.cell (p := ⟨b, off + k * 2, none⟩) hlt0).trans (hc k (by omega)).1
      have y2 := (hbx.bel.cell (p := ⟨b, off + k * 2 + 1, none⟩) hlt0).trans (hc k (by omega)).2
      have hs := T0.taken_succ es k (x, s) (by omega)
      have hin := T0.taken_of (es := es) (e := (x, s)) hlt hn
      obtain ⟨z, ez⟩ : ∃ z, T0.ent es k = z := ⟨_, rfl⟩
      rw [ez] at y1 y2 hs hin
      obtain ⟨u, v⟩ := z
      have e1 : (0 : Int) ≤ (k : Int) := by omega
      have e2 : (k : Int) < (n : Int) := by omega
      have hb2 := hbx.alloc (.cells #[.int .i64 u, .string v] 33)
      have d0 := hb2.c0
      have d1 := hb2.c1
      clear ez hc
      by_cases h1 : (v.toList == s.toList) = true
      · have HR : Hid (T0.taken (es.take n) (x, s) = true) := hin (by rw [T0.clash, h1]; rfl)
        clear hin hs hno
        go_wp2
        go_ret
        exact ⟨ret_bool HR.out.symm, hb2.bel⟩
      · have h1' : (v.toList == s.toList) = false := by simpa using h1
        by_cases h2 : (u == x) = true
        · have HR : Hid (T0.taken (es.take n) (x, s) = true) := hin (by rw [T0.clash, h1', h2]; rfl)
          clear hin hs hno h1
          go_wp2
          go_ret
          exact ⟨ret_bool HR.out.symm, hb2.bel⟩
        · have h2' : (u == x) = false := by simpa using h2
          have HN : Hid (T0.taken (es.take (k + 1)) (x, s) = false) := by rw [hs, hno, T0.clash, h1', h2']; rfl
          clear hin hs hno h1 h2
          go_wp2
          go_roundw
          case rel => exact ⟨k + 1, by omega, HN.out, by go_num, hb2⟩
          case measure => simp [intOf]; omega
    · obtain rfl : k = n := by omega
      have HN : Hid (T0.taken (es.take k) (x, s) = false) := hno
      clear hno hc
      go_wp2
      go_ret
      exact ⟨ret_bool HN.out.symm, hbx.bel⟩

theorem ok_lit {i : Int} {s : ByteArray} {B : Nat} {w W : World} {r : Bool} (hs : s.size ≤ 281474976710656) (hr : E0.entryOk i s = r) (h : E2.Bx B w i s W) :
    Calls Try.prog 28 #[.agg #[.int .i64 i, .string s]] W fun e w' => e = .returned (.bool r) ∧ E2.Bx B w i s w' :=
  (E2.impl_EntryOk_bx hs h).mono fun _ _ ⟨he, hb⟩ => ⟨by rw [he, hr], hb⟩

theorem row_at {w W : World} {b off : Nat} {es : List T0.Ent} (hlt : b < w.heap.size) (hb : Below w.heap.size w W) (hc : ∀ j, j < es.length → w.cell? ⟨b, off + j * 2, none⟩ = some (.int .i64 (T0.ent es j).1) ∧ w.cell? ⟨b, off + j * 2 + 1, none⟩ = some (.string (T0.ent es j).2)) :
    ∀ j, j < es.length → W.cell? ⟨b, off + j * 2, none⟩ = some (.int .i64 (T0.ent es j).1) ∧ W.cell? ⟨b, off + j * 2 + 1, none⟩ = some (.string (T0.ent es j).2) := fun j hj =>
  ⟨(hb.cell (p := ⟨b, off + j * 2, none⟩) hlt).trans (hc j hj).1, (hb.cell (p := ⟨b, off + j * 2 + 1, none⟩) hlt).trans (hc j hj).2⟩

theorem taken_lit (b off n c : Nat) (es : List T0.Ent) (x : Int) (s : ByteArray) (w W : World) (r : Bool) (hn : n ≤ es.length) (hbig : n ≤ 1048576) (hlt0 : b < w.heap.size) (hb : Below w.heap.size w W) (hr : T0.taken (es.take n) (x, s) = r)
    (hc : ∀ j, j < es.length → w.cell? ⟨b, off + j * 2, none⟩ = some (.int .i64 (T0.ent es j).1) ∧ w.cell? ⟨b, off + j * 2 + 1, none⟩ = some (.string (T0.ent es j).2)) :
    Calls Try.prog 151 #[.slice (some ⟨b, off, none⟩) n c, .agg #[.int .i64 x, .string s]] W fun e w' => e = .returned (.bool r) ∧ Below w.heap.size w w' :=
  (isTaken b off n c es x s W hn hbig (Nat.lt_of_lt_of_le hlt0 hb.size) (row_at hlt0 hb hc)).mono fun _ _ ⟨he, h2⟩ => ⟨by rw [he, hr], hb.trans (h2.mono hb.size)⟩

set_option maxHeartbeats 800000 in
theorem dirOk (a : Option Addr) (c : Nat) (es : List T0.Ent) (w : World) (hbig : es.length ≤ 1048576) (hcap : es.length ≤ c) (hfit : T0.Fits es) (hR : T0.Row w a es) :
    Calls Try.prog 148 #[.slice a es.length c] w fun e w' => e = .returned (.bool (T0.dirOk es)) ∧ Below w.heap.size w w' := by
  by_cases h12 : 12 < (es.length : Int)
  · have HR : Hid (T0.dirOk es = false) := by rw [T0.dirOk, decide_eq_false (by omega : ¬ es.length ≤ 12)]; rfl
    go_enter Try.func148, Try.ntmps148
    go_wp2
    go_ret
    exact ⟨ret_bool HR.out.symm, Below.refl _ _⟩
  · have hD : T0.dirOk es = T0.okUpto es es.length := by rw [T0.dirOk, decide_eq_true (by omega : es.length ≤ 12), Bool.true_and]
    go_enter Try.func148, Try.ntmps148
    go_wp2
    go_loopw [10] (fun i w' => ∃ k : Nat, k ≤ es.length ∧ T0.okUpto es k = true ∧ i = .int .i64 k ∧ Below w.heap.size w w') (fun i _ => es.length - (intOf i).toNat)
    case atStart => exact ⟨0, Nat.zero_le _, rfl, rfl, Below.refl _ _⟩
    case round =>
      obtain ⟨k, hk, hok, rfl, hbel⟩ := hrel
      by_cases hlt : k < es.length
      · obtain ⟨b, off, rfl, hlt0, hc⟩ := hR.get hlt
        have y1 := (hbel.cell (p := ⟨b, off + k * 2, none⟩) hlt0).trans (hc k hlt).1
        have y2 := (hbel.cell (p := ⟨b, off + k * 2 + 1, none⟩) hlt0).trans (hc k hlt).2
        have hs := T0.okUpto_succ es k
        have hat : T0.okAt es k = (E0.entryOk (T0.ent es k).1 (T0.ent es k).2 && !(T0.taken (es.take k) (T0.ent es k))) := rfl
        have hf := hfit k hlt
        obtain ⟨z, ez⟩ : ∃ z, T0.ent es k = z := ⟨_, rfl⟩
        rw [ez] at y1 y2 hat hf
        obtain ⟨u, v⟩ := z
        simp only at y1 y2 hat hf
        have e1 : (0 : Int) ≤ (k : Int) := by omega
        have e2 : (k : Int) < (es.length : Int) := by omega
        have e3 : (k : Int) ≤ (c : Int) := by omega
        have hb1 := E2.bx_new u v wr 33
        have hbd := hb1.drew
        have hB := hbel.size
        clear ez hR hfit
        by_cases hE : E0.entryOk u v = true
        · have hiT : Hid (∀ r W, T0.taken (es.take k) (u, v) = r → Below wr.heap.size wr W → Calls Try.prog 151 #[.slice (some ⟨b, off, none⟩) k c, .agg #[.int .i64 u, .string v]] W fun e w' => e = .returned (.bool r) ∧ Below w.heap.size w w') := fun r W hr hb => taken_lit b off k c es u v w W r (by omega) (by omega) hlt0 (hbel.trans (hb.mono hB)) hr hc
          by_cases hT : T0.taken (es.take k) (u, v) = true
          · have HR : Hid (T0.dirOk es = false) := T0.dirOk_bad hlt (by rw [hat, hT, Bool.not_true, Bool.and_false])
            clear hs hat hok hc hD
            go_wp2
            go_region_with (first
              | (go_at_call 28; refine (ok_lit (by omega) hE hbd).mono ?_; rintro e w4 ⟨rfl, h4⟩; have x0 := h4.c0; have x1 := h4.c1)
              | (go_at_call 151; refine (hiT.out _ _ hT h4.bel).mono ?_; rintro e w5 ⟨rfl, b5⟩))
            all_goals
              go_wp2
              go_ret
              exact ⟨ret_bool HR.out.symm, b5⟩
          · have hT' : T0.taken (es.take k) (u, v) = false := by simpa using hT
            have HO : Hid (T0.okUpto es (k + 1) = true) := by rw [hs, hok, hat, hE, hT']; rfl
            clear hs hat hok hc hD hT
            go_wp2
            go_region_with (first
              | (go_at_call 28; refine (ok_lit (by omega) hE hbd).mono ?_; rintro e w4 ⟨rfl, h4⟩; have x0 := h4.c0; have x1 := h4.c1)
              | (go_at_call 151; refine (hiT.out _ _ hT' h4.bel).mono ?_; rintro e w5 ⟨rfl, b5⟩))
            all_goals
              go_wp2
              go_roundw
              case rel => exact ⟨k + 1, by omega, HO.out, by go_num, b5⟩
              case measure => simp [intOf]; omega
        · have hE' : E0.entryOk u v = false := by simpa using hE
          have HR : Hid (T0.dirOk es = false) := T0.dirOk_bad hlt (by rw [hat, hE']; rfl)
          clear hs hat hok hc hD hE
          go_wp2
          have hS0 : (wr.alloc (.cells #[.int .i64 u, .string v] 33)).drew.cell? ⟨wr.heap.size, 0, none⟩ = some (.int .i64 u) ∧ (wr.alloc (.cells #[.int .i64 u, .string v] 33)).drew.cell? ⟨wr.heap.size, 1, none⟩ = some (.string v) := ⟨hbd.c0, hbd.c1⟩
          refine wp_region_held (S := fun W => W.cell? ⟨wr.heap.size, 0, none⟩ = some (.int .i64 u) ∧ W.cell? ⟨wr.heap.size, 1, none⟩ = some (.string v)) (by kernel_rfl) ?_
          refine wpAnyH_take (i := 0) (v := .agg #[.int .i64 u, .string v]) rfl (by kernel_rfl) (by kernel_rfl) (by kernel_rfl) (fun _ _ _ h => h) (Or.inl ⟨by rfl, fun w' hS' => ?_⟩) hS0 ?_
          · obtain ⟨s0, s1⟩ := hS'
            go_simp
          simp only [List.getElem_toArray, List.getElem_cons_succ, List.getElem_cons_zero, Act.put, List.setIfInBounds_toArray, List.set_cons_succ, List.set_cons_zero, Nat.reduceAdd]
          refine Y0.one_call (i := 1) (by kernel_rfl) rfl rfl (.tmp 15) _ rfl (.agg #[.int .i64 u, .string v]) (by rfl) (enters_of Try.func28 (by kernel_rfl) rfl) ((ok_lit (by omega) hE' hbd).mono ?_)
          rintro e w4 ⟨rfl, h4⟩
          have hS4 : w4.cell? ⟨wr.heap.size, 0, none⟩ = some (.int .i64 u) ∧ w4.cell? ⟨wr.heap.size, 1, none⟩ = some (.string v) := ⟨h4.c0, h4.c1⟩
          refine ⟨_, rfl, hS4, ?_⟩
          simp only [List.getElem_toArray, List.getElem_cons_succ, List.getElem_cons_zero, Act.put, List.setIfInBounds_toArray, List.set_cons_succ, List.set_cons_zero, Nat.reduceAdd]
          refine wpAnyH_take (i := 2) (v := .bool true) rfl (by kernel_rfl) (by kernel_rfl) (by kernel_rfl) (fun _ _ _ h => h) (Or.inl ⟨by rfl, fun w' hS' => by rfl⟩) hS4 ?_
          simp only [List.getElem_toArray, List.getElem_cons_succ, List.getElem_cons_zero, Act.put, List.setIfInBounds_toArray, List.set_cons_succ, List.set_cons_zero, Nat.reduceAdd]
          refine wpAnyH_take (i := 3) (v := .bool true) rfl (by kernel_rfl) (by kernel_rfl) (by kernel_rfl) (fun _ _ _ h => h) (Or.inl ⟨by rfl, fun w' hS' => by rfl⟩) hS4 ?_
          simp only [List.getElem_toArray, List.getElem_cons_succ, List.getElem_cons_zero, Act.put, List.setIfInBounds_toArray, List.set_cons_succ, List.set_cons_zero, Nat.reduceAdd]
          refine wpAnyH_take (i := 4) (v := undef) rfl (by kernel_rfl) (by kernel_rfl) (by kernel_rfl) (fun _ _ _ h => h) (Or.inr ⟨by rfl, rfl⟩) hS4 ?_
          simp only [List.getElem_toArray, List.getElem_cons_succ, List.getElem_cons_zero, Act.put, List.setIfInBounds_toArray, List.set_cons_succ, List.set_cons_zero, Nat.reduceAdd]
          refine wpAnyH_take (i := 5) (v := undef) rfl (by kernel_rfl) (by kernel_rfl) (by kernel_rfl) (fun _ _ _ h => h) (Or.inr ⟨by rfl, rfl⟩) hS4 ?_
          simp only [List.getElem_toArray, List.getElem_cons_succ, List.getElem_cons_zero, Act.put, List.setIfInBounds_toArray, List.set_cons_succ, List.set_cons_zero, Nat.reduceAdd]
          refine wpAnyH_take (i := 6) (v := undef) rfl (by kernel_rfl) (by kernel_rfl) (by kernel_rfl) (fun _ _ _ h => h) (Or.inr ⟨by rfl, rfl⟩) hS4 ?_
          simp only [List.getElem_toArray, List.getElem_cons_succ, List.getElem_cons_zero, Act.put, List.setIfInBounds_toArray, List.set_cons_succ, List.set_cons_zero, Nat.reduceAdd]
          refine wpAnyH_take (i := 7) (v := undef) rfl (by kernel_rfl) (by kernel_rfl) (by kernel_rfl) (fun _ _ _ h => h) (Or.inr ⟨by rfl, rfl⟩) hS4 ?_
          simp only [List.getElem_toArray, List.getElem_cons_succ, List.getElem_cons_zero, Act.put, List.setIfInBounds_toArray, List.set_cons_succ, List.set_cons_zero, Nat.reduceAdd]
          refine wpAnyH_take (i := 8) (v := undef) rfl (by kernel_rfl) (by kernel_rfl) (by kernel_rfl) (fun _ _ _ h => h) (Or.inr ⟨by rfl, rfl⟩) hS4 ?_
          simp only [List.getElem_toArray, List.getElem_cons_succ, List.getElem_cons_zero, Act.put, List.setIfInBounds_toArray, List.set_cons_succ, List.set_cons_zero, Nat.reduceAdd]
          refine wpAnyH_take (i := 9) (v := .bool true) rfl (by kernel_rfl) (by kernel_rfl) (by kernel_rfl) (fun _ _ _ h => h) (Or.inl ⟨by rfl, fun w' hS' => by rfl⟩) hS4 ?_
          simp only [List.getElem_toArray, List.getElem_cons_succ, List.getElem_cons_zero, Act.put, List.setIfInBounds_toArray, List.set_cons_succ, List.set_cons_zero, Nat.reduceAdd]
          refine wpAnyH_done (by kernel_rfl) ?_ _
          all_goals
            go_wp2
            go_ret
            exact ⟨ret_bool HR.out.symm, hbel.trans (h4.bel.mono hB)⟩
      · obtain rfl : k = es.length := by omega
        have HR : Hid (T0.dirOk es = true) := by rw [hD, hok]; rfl
        clear hok hD hR
        go_wp2
        go_ret
        exact ⟨ret_bool HR.out.symm, hbel⟩
end Go.Proofs.Ytpkicoagakpigaa.T1

/- Contracts of impl.PutDir and spec.PutDir, as the given laws call them. -/
namespace Go.Proofs.Ytpkicoagakpigaa.T2
open Go.ChangeShapes Go.WideShapes Go.ChangeAt Go.RowKit
set_option linter.unusedVariables false
set_option linter.unusedSimpArgs false
set_option maxRecDepth 10000

theorem ret_str {a b : ByteArray} (h : a = b) : Ending.returned (.string a) = .returned (.string b) := by rw [h]

theorem makeRoom (n : Nat) (hn : n ≤ 12) : ∃ C : Array Value, C.size = n * 16 ∧ ∀ W : World, (Instr.makeSlice 22 (.int .i64 0) (.int .i64 ((n : Int) * 16))).run Try.prog W = .ok (.slice (some ⟨W.heap.size, 0, none⟩) 0 (n * 16)) (W.alloc (.cells C 5)) := by
  obtain ⟨i0, hi, hz0, hz1, hz2⟩ := info_parts F0.info5
  refine ⟨madeCells (Value.int .u8 0).cells ((n * 16) * i0.size), ?_, fun W => ?_⟩
  · have : (madeCells (Value.int .u8 0).cells ((n * 16) * i0.size)).toList.length = n * 16 := by
      rw [show (Value.int .u8 0).cells = #[Value.int .u8 0] from rfl, toList_madeCells_one, hz1]
      simp
    simpa using this
  · have h := run_make (P := Try.prog) W 22 5 i0 (.int .u8 0) Try.underlying22 hi hz0 .i64 .i64 0 ((n : Int) * 16) (by omega) (by omega) (by rw [hz2]; omega) (by omega)
    rw [show ((n : Int) * 16).toNat = n * 16 by omega] at h
    exact h

theorem dir_lit {a : Option Addr} {c : Nat} {es : List T0.Ent} {W : World} {r : Bool} (hbig : es.length ≤ 1048576) (hcap : es.length ≤ c) (hfit : T0.Fits es) (hR : T0.Row W a es) (hr : T0.dirOk es = r) :
    Calls Try.prog 148 #[.slice a es.length c] W fun e w' => e = .returned (.bool r) ∧ Below W.heap.size W w' := (T1.dirOk a c es W hbig hcap hfit hR).mono fun _ _ h => ⟨by rw [h.1, hr], h.2⟩

end Go.Proofs.Ytpkicoagakpigaa.T2

/- The contract of spec.PutDir, as the given laws call it. -/
namespace Go.Proofs.Ytpkicoagakpigaa.T3
open Go.ChangeShapes Go.WideShapes Go.ChangeAt Go.RowKit
set_option linter.unusedVariables false
set_option linter.unusedSimpArgs false
set_option maxRecDepth 10000

open T2 (ret_str)

theorem putE_empty {i : Int} {s : ByteArray} (h : E0.entryOk i s = false) : (E0.putE i s).toList.isEmpty = true := by
  rw [E0.putE, if_neg (by rw [h]; decide), Lib.toList_data]
  rfl
theorem putE_full {i : Int} {s : ByteArray} (h : E0.entryOk i s = true) : (E0.putE i s).toList.isEmpty = false := by
  have := T0.putE_size16 h
  rw [Lib.toList_data]
  cases hl : (E0.putE i s).data.toList with
  | nil => rw [Lib.size_eq, hl] at this; simp at this
  | cons x r => rfl

set_option maxHeartbeats 4000000 in
theorem spec_PutDir (a : Option Addr) (c : Nat) (es : List T0.Ent) (w : World) (hbig : es.length ≤ 1048576) (hcap : es.length ≤ c) (hfit : T0.Fits es) (hR : T0.Row w a es) :
    Calls Try.prog 115 #[.slice a es.length c] w fun e w' => e = .returned (.string (T0.putD es)) ∧ Below w.heap.size w w' := by
  have HB : Hid (∀ k, k < es.length → T0.okAt es k = false → T0.putD es = ⟨#[]⟩) := fun k hk h => by rw [T0.putD, T0.dirOk_bad hk h]; rfl
  have HL : Hid (12 < es.length → T0.putD es = ⟨#[]⟩) := fun h => by rw [T0.putD, T0.dirOk, decide_eq_false (by omega : ¬ es.length ≤ 12)]; rfl
  have HY : Hid (es.length ≤ 12 → T0.okUpto es es.length = true → T0.putD es = T0.joined es es.length) := fun h1 h2 => by rw [T0.putD, T0.dirOk, decide_eq_true h1, h2]; rfl
  go_enter Try.func115, Try.ntmps115
  go_wp2
  go_loopw [3, 4] (fun t i w' => ∃ j : Nat, j ≤ es.length ∧ (j = 0 ∨ es.length ≤ 12) ∧ T0.okUpto es j = true ∧ i = .int .i64 j ∧ t = .string (T0.joined es j) ∧ Below w.heap.size w w') (fun _ i _ => es.length - (intOf i).toNat)
  case atStart => exact ⟨0, Nat.zero_le _, Or.inl rfl, rfl, rfl, rfl, Below.refl _ _⟩
  case round =>
    obtain ⟨j, hj, h12, hok, rfl, rfl, hbel⟩ := hrel
    by_cases hlt : j < es.length
    · obtain ⟨b, off, rfl, hlt0, hc⟩ := (hR.below hbel).get hlt
      have y1 := (hc j hlt).1
      have y2 := (hc j hlt).2
      have hs := T0.okUpto_succ es j
      have hat : T0.okAt es j = (E0.entryOk (T0.ent es j).1 (T0.ent es j).2 && !(T0.taken (es.take j) (T0.ent es j))) := rfl
      have hf := hfit j hlt
      have hu : T0.joined es (j + 1) = T0.joined es j ++ E0.putE (T0.ent es j).1 (T0.ent es j).2 := rfl
      have hjs := T0.joined_size hok j (Nat.le_refl _)
      have hbad := HB.out j hlt
      have hin := fun k (hk : k < j) => T0.taken_of (es := es) (e := T0.ent es j) hk hj
      have hts := fun k (hk : k < es.length) => T0.taken_succ es k (T0.ent es j) hk
      obtain ⟨z, ez⟩ : ∃ z, T0.ent es j = z := ⟨_, rfl⟩
      rw [ez] at y1 y2 hat hf hu hin hts
      obtain ⟨u, v⟩ := z
      simp only at y1 y2 hat hf hu
      have e1 : (0 : Int) ≤ (j : Int) := by omega
      have e2 : (j : Int) < (es.length : Int) := by omega
      clear ez hR hfit HB
      go_wp2
      go_loopw [5] (fun i w' => ∃ k m : Nat, k ≤ j ∧ T0.taken (es.take k) (u, v) = false ∧ i = .int .i64 k ∧ w' = wr.drewN m) (fun i _ => j - (intOf i).toNat)
      case atStart => exact ⟨0, 0, Nat.zero_le _, rfl, rfl, rfl⟩
      case round =>
        obtain ⟨k, m, hk, hno, rfl, hW⟩ := hrel
        have x1 : wr.cell? ⟨b, off + j * 2, none⟩ = some (.int .i64 u) := by rw [hW]; exact y1
        have x2 : wr.cell? ⟨b, off + j * 2 + 1, none⟩ = some (.string v) := by rw [hW]; exact y2
        have HW : Below w.heap.size w wr := by rw [hW]; exact K0.below_drewN hbel m
        have HD : Hid (wr = _) := hW
        by_cases hlk : k < j
        · have x3 : wr.cell? ⟨b, off + k * 2, none⟩ = some (.int .i64 (T0.ent es k).1) := by rw [hW]; exact (hc k (by omega)).1
          have x4 : wr.cell? ⟨b, off + k * 2 + 1, none⟩ = some (.string (T0.ent es k).2) := by rw [hW]; exact (hc k (by omega)).2
          have hin1 := hin k hlk
          have hts1 := hts k (by omega)
          obtain ⟨z, ez⟩ : ∃ z, T0.ent es k = z := ⟨_, rfl⟩
          rw [ez] at x3 x4 hin1 hts1
          obtain ⟨p, q⟩ := z
          simp only at x3 x4
          have f1 : (0 : Int) ≤ (k : Int) := by omega
          have f2 : (k : Int) < (es.length : Int) := by omega
          have f3 : (k : Int) < (j : Int) := by omega
          clear ez hc y1 y2 hW hin hts
          by_cases h1 : (q.toList == v.toList) = true
          · have HR : Hid (T0.putD es = ⟨#[]⟩) := hbad (by rw [hat, hin1 (by rw [T0.clash, h1]; rfl), Bool.not_true, Bool.and_false])
            clear hin1 hts1 hat hbad hs hok hu
            go_wp2
            go_quiet (fail)
            go_wp2
            go_ret
            exact ⟨ret_str HR.out.symm, K0.below_drewN HW _⟩
          · have h1' : (q.toList == v.toList) = false := by simpa using h1
            by_cases h2 : (p == u) = true
            · have HR : Hid (T0.putD es = ⟨#[]⟩) := hbad (by rw [hat, hin1 (by rw [T0.clash, h1', h2]; rfl), Bool.not_true, Bool.and_false])
              clear hin1 hts1 hat hbad hs hok hu h1
              go_wp2
              go_quiet (fail)
              go_wp2
              go_ret
              exact ⟨ret_str HR.out.symm, K0.below_drewN HW _⟩
            · have h2' : (p == u) = false := by simpa using h2
              have HN : Hid (T0.taken (es.take (k + 1)) (u, v) = false) := by rw [hts1, hno, T0.clash, h1', h2']; rfl
              clear hin1 hts1 hat hbad hs hok hu h1 h2 hno
              go_wp2
              go_quiet (fail)
              go_wp2
              go_roundw
              case rel => exact ⟨k + 1, m + nq, by omega, HN.out, by go_num, by rw [HD.out, World.drewN_drewN]⟩
              case measure => simp [intOf]; omega
        · obtain rfl : k = j := by omega
          clear hc y1 y2 hW HD hin hts
          by_cases hE : E0.entryOk u v = true
          · have g1 := putE_full hE
            have hps := T0.putE_size16 hE
            by_cases hl : 12 < es.length
            · have HR : Hid (T0.putD es = ⟨#[]⟩) := HL.out hl
              have hl' : 12 < (es.length : Int) := by omega
              clear hat hbad hs hok hu hno
              go_wp2_with (go_at_call 25; refine (E2.spec_PutEntry u v _ hf).mono ?_; rintro e w2 ⟨rfl, b2⟩)
              go_ret
              exact ⟨ret_str HR.out.symm, HW.trans (b2.mono HW.size)⟩
            · have hl' : ¬ 12 < (es.length : Int) := by omega
              have hl'' : decide (12 < (es.length : Int)) = false := by simpa using hl'
              have HO : Hid (T0.okUpto es (k + 1) = true) := by rw [hs, hok, hat, hE, hno]; rfl
              have HU : Hid (T0.joined es (k + 1) = T0.joined es k ++ E0.putE u v) := hu
              have zz : (T0.joined es k).size + (E0.putE u v).size ≤ 9223372036854775807 := by omega
              have zz2 : 16 * k + 16 ≤ 9223372036854775807 := by omega
              clear hat hbad hs hok hu hno
              go_wp2_with (go_at_call 25; refine (E2.spec_PutEntry u v _ hf).mono ?_; rintro e w2 ⟨rfl, b2⟩)
              go_roundw
              case rel => exact ⟨k + 1, by omega, Or.inr (by omega), HO.out, by go_num, by rw [HU.out], HW.trans (b2.mono HW.size)⟩
              case measure => simp [intOf]; omega
          · have hE' : E0.entryOk u v = false := by simpa using hE
            have g1 := putE_empty hE'
            have HR : Hid (T0.putD es = ⟨#[]⟩) := hbad (by rw [hat, hE']; rfl)
            clear hat hbad hs hok hu hno
            go_wp2_with (go_at_call 25; refine (E2.spec_PutEntry u v _ hf).mono ?_; rintro e w2 ⟨rfl, b2⟩)
            go_ret
            exact ⟨ret_str HR.out.symm, HW.trans (b2.mono HW.size)⟩
    · obtain rfl : j = es.length := by omega
      have HP : Hid (T0.putD es = T0.joined es es.length) := by
        show T0.putD es = T0.joined es es.length
        rcases h12 with h | h
        · exact HY.out (by omega) hok
        · exact HY.out h hok
      clear hok hR hfit h12 HB HL HY
      go_wp2
      go_ret
      exact ⟨ret_str HP.out.symm, hbel⟩
end Go.Proofs.Ytpkicoagakpigaa.T3

/- Entries among a law's arguments; contracts of laws.szEntryS, laws.toEntryS and laws.eqEntryS. -/
namespace Go.Proofs.Ytpkicoagakpigaa.T4
open Go.ChangeShapes Go.WideShapes Go.ChangeAt Go.RowKit Go.Joins Go.Deep
set_option linter.unusedVariables false
set_option linter.unusedSimpArgs false
set_option maxRecDepth 10000

def num : Value → Int
  | .int _ z => z
  | _ => 0
def txt : Value → ByteArray
  | .string s => s
  | _ => ⟨#[]⟩

/-- All names fit. -/
def FitsM (es : List T0.Ent) : Prop := ∀ j, j < es.length → (T0.ent es j).2.size ≤ maxLen

section Args
variable {H : Type} {enc : TypeId × Value → H} {w : World}

end Args

/-- The names' sizes, all together. -/
def sum (es : List T0.Ent) : Nat → Nat
  | 0 => 0
  | k + 1 => sum es k + (T0.ent es k).2.size

theorem sum_mono (es : List T0.Ent) (k : Nat) : ∀ m, sum es k ≤ sum es (k + m)
  | 0 => Nat.le_refl _
  | m + 1 => Nat.le_trans (sum_mono es k m) (Nat.le_add_right _ _)

theorem sum_le {es : List T0.Ent} {k n : Nat} (h : k ≤ n) : sum es k ≤ sum es n := by
  have := sum_mono es k (n - k)
  rwa [show k + (n - k) = n by omega] at this

theorem fits_of {es : List T0.Ent} (h : es.length + sum es es.length ≤ 1048576) : T0.Fits es := fun j hj => by
  have h1 := sum_le (es := es) (k := j + 1) (n := es.length) (by omega)
  have h2 : sum es (j + 1) = sum es j + (T0.ent es j).2.size := rfl
  omega

/-- What is left of 2^20; -1 where nothing is. -/
def left (es : List T0.Ent) : Int := if es.length + sum es es.length ≤ 1048576 then 1048576 - (es.length : Int) - (sum es es.length : Int) else -1

theorem ret_int {k : IntKind} {a b : Int} (h : a = b) : Ending.returned (.int k a) = .returned (.int k b) := by rw [h]

end Go.Proofs.Ytpkicoagakpigaa.T4

/- Contracts of laws.toEntryS and laws.eqEntryS, as the given laws call them. -/
namespace Go.Proofs.Ytpkicoagakpigaa.T5
open Go.ChangeShapes Go.WideShapes Go.ChangeAt Go.RowKit
set_option linter.unusedVariables false
set_option linter.unusedSimpArgs false
set_option maxRecDepth 10000

theorem info33 : (Try.prog.info? 33).map (fun i => (i.zero, i.size, i.bytes)) = some (some (.agg #[.int .i64 0, .string ⟨#[]⟩]), 2, 24) := by kernel_rfl

theorem make_ents (n : Nat) (hn : n ≤ 1048576) : ∃ C : Array Value, C.size = n * 2 ∧ ∀ W : World, (Instr.makeSlice 84 (.int .i64 (n : Int)) (.int .i64 (n : Int))).run Try.prog W = .ok (.slice (some ⟨W.heap.size, 0, none⟩) n n) (W.alloc (.cells C 33)) := by
  obtain ⟨i0, hi, hz0, hz1, hz2⟩ := info_parts info33
  refine ⟨madeCells (Value.agg #[.int .i64 0, .string ⟨#[]⟩]).cells (n * i0.size), by rw [size_madeCells, hz1], fun W => ?_⟩
  have h := run_make (P := Try.prog) W 84 33 i0 (.agg #[.int .i64 0, .string ⟨#[]⟩]) Try.underlying84 hi hz0 .i64 .i64 (n : Int) (n : Int) (by omega) (by omega) (by rw [hz2]; omega) (by omega)
  rw [show ((n : Int)).toNat = n by omega] at h
  exact h

/-- A row of entries while it is being filled. -/
structure Mk (g n : Nat) (es : List T0.Ent) (k : Nat) (W : World) : Prop where
  done : ∀ j, j < k → W.cell? ⟨g, j * 2, none⟩ = some (.int .i64 (T0.ent es j).1) ∧ W.cell? ⟨g, j * 2 + 1, none⟩ = some (.string (T0.ent es j).2)
  there : ∀ j, j < n * 2 → (W.cell? ⟨g, j, none⟩).isSome = true
  free : ∀ j, j < n * 2 → W.frozen? ⟨g, j, none⟩ = false
  lt : g < W.heap.size

variable {g n k : Nat} {es : List T0.Ent} {w W W' : World}

theorem Mk.below (h : Mk g n es k W) (hb : Below W.heap.size W W') : Mk g n es k W' :=
  ⟨fun j hj => ⟨(hb.cell (p := ⟨g, j * 2, none⟩) h.lt).trans (h.done j hj).1, (hb.cell (p := ⟨g, j * 2 + 1, none⟩) h.lt).trans (h.done j hj).2⟩,
   fun j hj => by rw [hb.cell (p := ⟨g, j, none⟩) h.lt]; exact h.there j hj, fun j hj => (hb.frozen (p := ⟨g, j, none⟩) h.lt).trans (h.free j hj), Nat.lt_of_lt_of_le h.lt hb.size⟩

theorem mk_new (w : World) (C : Array Value) (hC : C.size = n * 2) : Mk w.heap.size n es 0 (w.alloc (.cells C 33)) := by
  refine ⟨fun j hj => absurd hj (Nat.not_lt_zero _), fun j hj => ?_, fun j hj => ?_, ?_⟩
  · rw [World.cell?_alloc_mark]
    have : j < C.size := by omega
    simp [this]
  · have h := World.frozen?_alloc_mark w C 33 0 0 j
    rw [h]
    simp
  · simp

theorem some_set {W : World} {p x : Addr} {v : Value} (h : (W.cell? x).isSome = true) : ((W.setCell p v).cell? x).isSome = true := by
  by_cases e : p = x
  · subst e
    obtain ⟨u, hu⟩ := Option.isSome_iff_exists.1 h
    rw [World.cell?_setCell_same _ _ _ hu]
    rfl
  · rw [World.cell?_setCell_other _ _ _ _ e]
    exact h

theorem Mk.step (h : Mk g n es k W) (hk : k < n) {u : Int} {v : ByteArray} (he : T0.ent es k = (u, v)) : Mk g n es (k + 1) ((W.setCell ⟨g, k * 2, none⟩ (.int .i64 u)).setCell ⟨g, k * 2 + 1, none⟩ (.string v)) := by
  obtain ⟨x, hx⟩ := Option.isSome_iff_exists.1 (h.there (k * 2) (by omega))
  obtain ⟨y, hy⟩ := Option.isSome_iff_exists.1 (h.there (k * 2 + 1) (by omega))
  have n1 : (⟨g, k * 2 + 1, none⟩ : Addr) ≠ ⟨g, k * 2, none⟩ := by simp
  refine ⟨fun j hj => ?_, fun j hj => some_set (some_set (h.there j hj)), fun j hj => ?_, ?_⟩
  · by_cases e : j = k
    · subst e
      rw [he]
      refine ⟨?_, ?_⟩
      · rw [World.cell?_setCell_other _ _ _ _ n1, World.cell?_setCell_same _ _ _ hx]
      · rw [World.cell?_setCell_same _ _ _ ((World.cell?_setCell_other _ _ _ _ n1.symm).trans hy)]
    · have hd := h.done j (by omega)
      refine ⟨?_, ?_⟩
      · rw [World.cell?_setCell_other _ _ _ _ (by intro q; have := (Addr.mk.inj q).2.1; omega), World.cell?_setCell_other _ _ _ _ (by intro q; have := (Addr.mk.inj q).2.1; omega)]
        exact hd.1
      · rw [World.cell?_setCell_other _ _ _ _ (by intro q; have := (Addr.mk.inj q).2.1; omega), World.cell?_setCell_other _ _ _ _ (by intro q; have := (Addr.mk.inj q).2.1; omega)]
        exact hd.2
  · rw [World.frozen?_setCell, World.frozen?_setCell]
    exact h.free j hj
  · have := h.lt
    simpa [World.setCell] using this

end Go.Proofs.Ytpkicoagakpigaa.T5

/- A row of entries that a call has made and appends to. -/
namespace Go.Proofs.Ytpkicoagakpigaa.V1
open Go.ChangeShapes Go.WideShapes Go.ChangeAt Go.RowKit
set_option linter.unusedVariables false
set_option linter.unusedSimpArgs false
set_option maxRecDepth 10000

/-- Entries as cells, two each. -/
def flat : List T0.Ent → List Value
  | [] => []
  | e :: r => .int .i64 e.1 :: .string e.2 :: flat r

theorem flat_length : ∀ es : List T0.Ent, (flat es).length = es.length * 2
  | [] => rfl
  | e :: r => by simp [flat, flat_length r]; omega

theorem flat_append : ∀ (es : List T0.Ent) (e : T0.Ent), flat es ++ [.int .i64 e.1, .string e.2] = flat (es ++ [e])
  | [], e => rfl
  | x :: r, e => by simp [flat, ← flat_append r e]

theorem flat_get : ∀ (es : List T0.Ent) (j : Nat), j < es.length → (flat es)[j * 2]? = some (.int .i64 (T0.ent es j).1) ∧ (flat es)[j * 2 + 1]? = some (.string (T0.ent es j).2)
  | [], j, h => by simp at h
  | e :: r, 0, _ => ⟨rfl, rfl⟩
  | e :: r, j + 1, h => by
    have := flat_get r j (by simpa using h)
    have e1 : (j + 1) * 2 = j * 2 + 1 + 1 := by omega
    have e2 : T0.ent (e :: r) (j + 1) = T0.ent r j := rfl
    rw [e1, e2]
    exact this

/-- A row of a call's own. -/
def EBuf (base : Nat) (w : World) (a : Option Addr) (n cap : Nat) (es : List T0.Ent) : Prop := n = es.length ∧ w.ownsRow base 33 2 (.slice a n cap) n (flat es)

variable {base n cap : Nat} {a : Option Addr} {w W : World} {es : List T0.Ent}

theorem EBuf.below (h : EBuf base w a n cap es) (hb : Below w.heap.size w W) : EBuf base W a n cap es := ⟨h.1, F0.owns_below h.2 hb⟩
theorem EBuf.alloc (h : EBuf base w a n cap es) (o : Obj) : EBuf base (w.alloc o) a n cap es := h.below ((Below.refl _ _).alloc (Nat.le_refl _) o)
theorem ebuf_made (w : World) (hb : base ≤ w.heap.size) : EBuf base (w.alloc (.cells #[] 33)) (some ⟨w.heap.size, 0, none⟩) 0 0 [] := ⟨rfl, World.ownsRow_made w #[] 0 hb (Nat.zero_le _) rfl⟩

theorem EBuf.fits (h : EBuf base w a n cap es) : n ≤ cap := by
  rcases h.2.2 with ⟨h0, h1⟩ | ⟨g, c, cur, hv, _, _, hle, _⟩
  · omega
  · simp at hv
    omega

/-- What a call hands out. -/
def OwnE (base : Nat) (W : World) (a : Option Addr) (es : List T0.Ent) : Prop := es = [] ∨ ∃ g, a = some ⟨g, 0, none⟩ ∧ base ≤ g ∧ T5.Mk g es.length es es.length W

theorem EBuf.own (h : EBuf base w a n cap es) : OwnE base w a es := by
  rcases h.2.2 with ⟨h0, h1⟩ | ⟨g, c, cur, hv, hg, hc, hle, _, hs, ht⟩
  · left
    exact List.eq_nil_of_length_eq_zero (by rw [← h.1]; exact h1)
  · right
    simp at hv
    have hcell : ∀ j, w.cell? ⟨g, j, none⟩ = cur[j]? := fun j => by
      unfold World.cell?
      rw [hc]
      simp
    have hn := h.1
    have hget : ∀ j, j < n * 2 → cur[j]? = (flat es)[j]? := fun j hj => by
      have e1 : (cur.toList.take (n * 2))[j]? = (flat es)[j]? := by rw [ht]
      rw [List.getElem?_take_of_lt hj] at e1
      rw [← Array.getElem?_toList, e1]
    refine ⟨g, hv.1, hg, ⟨fun j hj => ?_, fun j hj => ?_, fun j hj => ?_, (Array.getElem?_eq_some_iff.1 hc).1⟩⟩
    · have := flat_get es j hj
      rw [hcell, hcell, hget _ (by omega), hget _ (by omega)]
      exact this
    · rw [hcell]
      have : j < cur.size := by omega
      simp [this]
    · unfold World.frozen?
      rw [hc]
      simp

theorem OwnE.row (h : OwnE base W a es) : T0.Row W a es := by
  rcases h with h | ⟨g, rfl, _, hm⟩
  · exact Or.inl h
  · exact Or.inr ⟨g, 0, rfl, hm.lt, fun j hj => by rw [Nat.zero_add]; exact hm.done j hj⟩
theorem OwnE.below {W' : World} (h : OwnE base W a es) (hb : Below W.heap.size W W') : OwnE base W' a es := h.imp id fun ⟨g, e, hg, hk⟩ => ⟨g, e, hg, hk.below hb⟩
theorem OwnE.mono {base' : Nat} (h : OwnE base W a es) (hb : base' ≤ base) : OwnE base' W a es := h.imp id fun ⟨g, e, hg, hk⟩ => ⟨g, e, Nat.le_trans hb hg, hk⟩

theorem one_ent (u : Int) (v : ByteArray) : ∀ x ∈ [Value.int .i64 u, .string v], x.oneCell' = true := by
  intro x h
  simp at h
  rcases h with rfl | rfl <;> rfl

/-- 'list = append(list, e)'. -/
theorem append_ent {ops : Array Oper} {rest : List Oper} {o : Oper} {A : Act} {Q : Exit → Act → World → Prop} (hgd : o.guard = none) (sl x : Operand)
    (ho : o.op = .call { callee := .builtin .append, args := #[sl, x], argTypes := #[84, 84] })
    (hbuf : EBuf base w a n cap es) (u : Int) (v : ByteArray) (hs : A.eval sl = .slice a n cap) {H : Nat} (hH : w.heap.size = H) (hx : A.eval x = .slice (some ⟨H, 0, none⟩) 1 1) (hlen : n + 1 ≤ 1048576) (hb : base ≤ w.heap.size)
    (h : ∀ g' cap' w', EBuf base w' (some ⟨g', 0, none⟩) (n + 1) cap' (es ++ [(u, v)]) → Below base w w' → wpList Try.prog ops Q rest (A.put o.dst (.slice (some ⟨g', 0, none⟩) (n + 1) cap')) w') : wpList Try.prog ops Q (o :: rest) A (w.alloc (.cells #[.int .i64 u, .string v] 33)) := by
  subst hH
  obtain ⟨i0, hi, hz0, hz1, hz2⟩ := info_parts T5.info33
  have hb2 := hbuf.alloc (.cells #[.int .i64 u, .string v] 33)
  refine wpList_append_lies _ hgd sl x 84 ho base 33 i0 (.agg #[.int .i64 0, .string ⟨#[]⟩]) 2 24 Try.underlying84 hi hz0 hz1 hz2 rfl (by omega) _ n _ hs hb2.2 ⟨w.heap.size, 0, none⟩ 1 1 [.int .i64 u, .string v] hx rfl (World.news_of_block (heap_alloc_new w _)) (one_ent u v) (by omega) (by unfold maxLen; omega) (by omega) (by simp; omega) _ rfl ?_
  intro g' cap' w' ho' hg' _ _
  refine h g' cap' w' ⟨by rw [hbuf.1]; simp, ?_⟩ ?_
  · rw [← flat_append]
    exact ho'
  · exact F0.below_grown ((Below.refl _ _).alloc hb _) hg' (fun g hg => (hbuf.2.lt g hg).1) (by simp; omega)

/-- What GetDir answers. -/
def Ans (s : ByteArray) (w : World) (e : Ending) (w' : World) : Prop :=
  ∃ a c, e = .returned (.tuple #[.slice a (V0.dE s).length c, .bool (V0.isD s)]) ∧ OwnE w.heap.size w' a (V0.dE s) ∧ (V0.dE s).length ≤ c ∧ Below w.heap.size w w'

theorem ans_no {s : ByteArray} {w w' : World} {a : Option Addr} {c : Nat} (h : V0.isD s = false) (hb : Below w.heap.size w w') : Ans s w (.returned (.tuple #[.slice a 0 c, .bool false])) w' := by
  have hd : V0.dE s = [] := by rw [V0.dE, h]; rfl
  exact ⟨a, c, by rw [hd, h]; rfl, by rw [hd]; exact Or.inl rfl, by rw [hd]; exact Nat.zero_le _, hb⟩

theorem ans_yes {s : ByteArray} {w w' : World} {a : Option Addr} {c : Nat} (h : V0.isD s = true) (ho : OwnE w.heap.size w' a (V0.ents s (V0.cnt s))) (hc : V0.cnt s ≤ c) (hb : Below w.heap.size w w') : Ans s w (.returned (.tuple #[.slice a (V0.cnt s) c, .bool true])) w' := by
  have hd : V0.dE s = V0.ents s (V0.cnt s) := by rw [V0.dE, h]; rfl
  exact ⟨a, c, by rw [hd, h, V0.ents_length], by rw [hd]; exact ho, by rw [hd, V0.ents_length]; exact hc, hb⟩

theorem name_size (x : ByteArray) : (E4.eName x).size ≤ x.size := by
  unfold E4.eName
  split
  · exact B2.part_size _ _ _
  · exact Nat.zero_le _

theorem fits_ents (s : ByteArray) (k : Nat) (hs : s.size ≤ 281474976710656) : T0.Fits (V0.ents s k) := fun j hj => by
  rw [V0.ents_length] at hj
  rw [V0.ents_get s k j hj]
  have h1 := name_size (V0.chunk s j)
  have h2 := B2.part_size s ((j : Int) * 16) 16
  have h3 : (V0.chunk s j).size ≤ s.size := h2
  simp only
  omega
end Go.Proofs.Ytpkicoagakpigaa.V1
