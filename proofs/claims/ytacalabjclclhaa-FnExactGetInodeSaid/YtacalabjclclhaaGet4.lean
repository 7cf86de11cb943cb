/- The contract of spec.GetInode, as the given laws call it. -/
import Derived.Test.YtacalabjclclhaaGet3
import Derived.Test.YtacalabjclclhaaRec2
import Derived.Deep.RegionLaw
namespace Go.Proofs.Ytacalabjclclhaa.G4
open Go.ChangeShapes Go.WideShapes Go.ChangeAt Go.RowKit
set_option linter.unusedVariables false
set_option linter.unusedSimpArgs false
set_option maxRecDepth 10000

open I0 (val vals)
open G3 (Ans ans_no ans_yes)

/-- A call of two arguments, as a step of a region that draws its order. -/
theorem step_call2 {P : Program} {ops : Array Oper} {o : Oper} {A : Act} {W : World} {K : Act → World → Prop} {Q : Exit → Act → World → Prop} {E : Prop} {f : Nat} (hgd : o.guard = none) (x y : Operand) (ts : Array TypeId)
    (hop : o.op = .call { callee := .value (.func f), args := #[x, y], argTypes := ts }) (eg : ∀ args w, (callFunc f args).run P w = .ok (.enter f args) w) (vx vy : Value) (hx : A.eval x = vx) (hy : A.eval y = vy)
    (hc : Calls P f #[vx, vy] W fun e w' => ∃ u, e = .returned u ∧ K (A.put o.dst u) w') : if Region.wanted o (yielded ops A.tmps) = true then Oper.wp P o A W K Q else E := by
  have hw : Region.wanted o (yielded ops A.tmps) = true := by simp [Region.wanted, hgd]
  rw [if_pos hw]
  have he : (execOp A.eval o).run P W = .ok (.enter f #[vx, vy]) W := by
    subst hx
    subst hy
    simp [execOp, hop, resolve, go_sem, invoke, eg]
  unfold Oper.wp
  rw [he]
  refine Calls.mono hc ?_
  rintro e w' ⟨u, rfl, h⟩
  exact h

/-- The two blocks of GetInode, and the pages read so far. -/
structure Sp (w : World) (k o s : Int) (a : Option Addr) (n c : Nat) (zs : List Int) (W : World) : Prop where
  res : K0.Blk w.heap.size (vals 0 0 0 none 0 0) W
  nd : K0.Blk (w.heap.size + 1) (vals k o s a n c) W
  buf : J0.IBuf (w.heap.size + 2) W a n c zs
  lt : w.heap.size + 2 ≤ W.heap.size
  bel : Below w.heap.size w W

variable {w W W' : World} {k o s : Int} {a : Option Addr} {n c : Nat} {zs : List Int}

theorem Sp.below (h : Sp w k o s a n c zs W) (hb : Below W.heap.size W W') : Sp w k o s a n c zs W' := ⟨h.res.below hb, h.nd.below hb, h.buf.below hb, Nat.le_trans h.lt hb.size, h.bel.trans (hb.mono h.bel.size)⟩
theorem Sp.drewN (h : Sp w k o s a n c zs W) (m : Nat) : Sp w k o s a n c zs (W.drewN m) := ⟨h.res.drewN m, h.nd.drewN m, h.buf.drewN m, h.lt, K0.below_drewN h.bel m⟩

theorem sp_new (w : World) (k o s : Int) (m : Nat) : Sp w k o s none 0 0 [] (((w.alloc (.cells #[.int .i64 0, .int .i64 0, .int .i64 0, .slice none 0 0] 26)).drewN m).alloc (.cells #[.int .i64 k, .int .i64 o, .int .i64 s, .slice none 0 0] 26)) :=
  ⟨((K0.blk_new (vals 0 0 0 none 0 0) w 26).drewN m).alloc _, K0.blk_at (vals k o s none 0 0) ((w.alloc _).drewN m) 26 (by simp), J0.ibuf_nil _, by simp, (K0.below_drewN ((Below.refl _ _).alloc (Nat.le_refl _) _) m).alloc (by simp) _⟩

/-- Behind an append and the store of what it made. -/
theorem Sp.step (h : Sp w k o s a n c zs W) {g' c' : Nat} {z : Int} (hb : J0.IBuf (w.heap.size + 2) W' (some ⟨g', 0, none⟩) (n + 1) c' (zs ++ [z])) (hl : Below (w.heap.size + 2) W W') :
    Sp w k o s (some ⟨g', 0, none⟩) (n + 1) c' (zs ++ [z]) (W'.setCell ⟨w.heap.size + 1, 3, none⟩ (.slice (some ⟨g', 0, none⟩) (n + 1) c')) := by
  have r1 := J0.blk_keep h.res hl (by omega)
  have n1 := J0.blk_keep h.nd hl (by omega)
  refine ⟨r1.setOther (by omega) 3 _, n1.set 3 _, ⟨hb.1, hb.2.1, ?_⟩, ?_, (h.bel.trans (hl.mono (by omega))).setCell (p := ⟨w.heap.size + 1, 3, none⟩) (by simp) _⟩
  · rcases hb.2.2 with h0 | ⟨g, cap, cur, hv, hg, hc, r⟩
    · exact Or.inl h0
    · refine Or.inr ⟨g, cap, cur, hv, hg, ?_, r⟩
      rw [Below.heap_setCell W' ⟨w.heap.size + 1, 3, none⟩ _ g (by show g ≠ w.heap.size + 1; omega)]
      exact hc
  · have := Nat.le_trans h.lt hl.size
    simpa [World.setCell] using this

theorem Sp.at3 (h : Sp w k o s a n c zs W) (hl : Below (w.heap.size + 2) W W') : W'.cell? ⟨w.heap.size + 1, 3, none⟩ = some (.slice a n c) ∧ W'.frozen? ⟨w.heap.size + 1, 3, none⟩ = false := by
  have n1 := J0.blk_keep h.nd hl (by omega)
  exact ⟨n1.c3, n1.f3⟩

theorem Sp.done (h : Sp w k o s a n c zs W) (x y z u : Value) : J0.Own w.heap.size ((((W.setCell ⟨w.heap.size, 0, none⟩ x).setCell ⟨w.heap.size, 1, none⟩ y).setCell ⟨w.heap.size, 2, none⟩ z).setCell ⟨w.heap.size, 3, none⟩ u) a zs ∧
    Below w.heap.size w ((((W.setCell ⟨w.heap.size, 0, none⟩ x).setCell ⟨w.heap.size, 1, none⟩ y).setCell ⟨w.heap.size, 2, none⟩ z).setCell ⟨w.heap.size, 3, none⟩ u) :=
  ⟨((((h.buf.own.set (by omega) 0 x).set (by omega) 1 y).set (by omega) 2 z).set (by omega) 3 u).mono (by omega),
   (((h.bel.setCell (p := ⟨w.heap.size, 0, none⟩) (Nat.le_refl _) _).setCell (p := ⟨w.heap.size, 1, none⟩) (Nat.le_refl _) _).setCell (p := ⟨w.heap.size, 2, none⟩) (Nat.le_refl _) _).setCell (p := ⟨w.heap.size, 3, none⟩) (Nat.le_refl _) _⟩

set_option maxHeartbeats 4000000 in
theorem spec_GetInode (s : ByteArray) (w : World) (hs : s.size ≤ 281474976710656) : Calls Try.prog 22 #[.string s] w (Ans s w) := by
  have hm : s.size ≤ maxLen := by unfold maxLen; omega
  have hpa := G0.pairAt_lt s 2
  have hcl := G0.cnt_le s
  have hct := G0.cnt_lt s
  have sp0 := sp_new w (B1.byteAt s 0) (B1.byteAt s 1) (B6.pairAt s 2)
  have heg : ∀ args w, (callFunc 90 args).run Try.prog w = .ok (.enter 90 args) w := enters_of Try.func90 (by kernel_rfl) rfl
  have HY : Hid (∀ a c w', s.size = 16 → ((R0.putI (B1.byteAt s 0) (B1.byteAt s 1) (B6.pairAt s 2) (G0.pgs s (G0.cnt s))).toList == s.toList) = true → J0.Own w.heap.size w' a (G0.pgs s (G0.cnt s)) → (G0.pgs s (G0.cnt s)).length ≤ c → Below w.heap.size w w' → Ans s w (.returned (.tuple #[val (B1.byteAt s 0) (B1.byteAt s 1) (B6.pairAt s 2) a (G0.pgs s (G0.cnt s)).length c, .bool true])) w') := fun a c w' h16 htx ho hl hb => ans_yes (G0.isI_of h16 htx) ho hl hb
  have HN : Hid (∀ w', ((R0.putI (B1.byteAt s 0) (B1.byteAt s 1) (B6.pairAt s 2) (G0.pgs s (G0.cnt s))).toList == s.toList) = false → Below w.heap.size w w' → Ans s w (.returned (.tuple #[val 0 0 0 none 0 0, .bool false])) w') := fun w' htx hb => ans_no (G0.isI_not htx) hb
  have HZ : Hid (∀ w', ¬ s.size = 16 → Below w.heap.size w w' → Ans s w (.returned (.tuple #[val 0 0 0 none 0 0, .bool false])) w') := fun w' h16 hb => ans_no (G0.isI_no h16) hb
  have hlen : (G0.pgs s (G0.cnt s)).length = G0.cnt s := G0.pgs_length _ _
  obtain ⟨R, hR⟩ : ∃ R, Ans s w = R := ⟨_, rfl⟩
  rw [hR] at HY HN HZ ⊢
  clear hR
  go_enter Try.func22, Try.ntmps22
  go_wp2_with (first
    | (go_at_call 90; refine (B1.spec_ByteAt _ _ _ hm).mono ?_; rintro e w' ⟨rfl, rfl⟩)
    | (go_at_call 91; refine (B6.spec_PairAt _ _ _ hs).mono ?_; rintro e w0 ⟨rfl, m0, rfl⟩))
  go_loopw [5] (fun i w' => ∃ (k c : Nat) (a : Option Addr), k ≤ G0.cnt s ∧ i = .int .i64 (k : Int) ∧ Sp w (B1.byteAt s 0) (B1.byteAt s 1) (B6.pairAt s 2) a k c (G0.pgs s k) w') (fun i _ => 12 - (intOf i).toNat)
  case atStart => exact ⟨0, 0, none, Nat.zero_le _, rfl, sp0 m0⟩
  case round =>
    obtain ⟨k, c, a, hk, rfl, sp⟩ := hrel
    clear sp0
    have x0 := sp.nd.c0
    have x1 := sp.nd.c1
    have x2 := sp.nd.c2
    have x3 := sp.nd.c3
    have x4 := sp.nd.f3
    have hnd : Hid (∀ W, Calls Try.prog 92 #[.int .i64 (B6.pairAt s 2)] W fun e w' => e = .returned (.int .i64 (P0.need (B6.pairAt s 2))) ∧ W = w') := fun W => (P1.l03Need _ _ hpa.1 hpa.2).mono fun _ _ h => ⟨h.1, h.2.symm⟩
    by_cases hlt : k < G0.cnt s
    · obtain ⟨h1, h2⟩ := (hct k).1 hlt
      have h2' : (k : Int) < 12 := by omega
      have hwr : IntKind.i64.wrap (4 + (k : Int)) = 4 + (k : Int) := by rw [IntKind.wrap_i64]; omega
      have HS : Hid (G0.pgs s k ++ [B1.byteAt s (4 + (k : Int))] = G0.pgs s (k + 1)) := G0.pgs_succ s k
      have xa := (sp.nd.alloc (.cells #[.int .i64 (B1.byteAt s (4 + (k : Int)))] 3)).c3
      have hby : Hid (∀ W, Calls Try.prog 90 #[.string s, .int .i64 (4 + (k : Int))] W fun e w' => e = .returned (.int .i64 (B1.byteAt s (4 + (k : Int)))) ∧ W = w') := fun W => (B1.spec_ByteAt _ _ _ hm).mono fun _ _ h => ⟨h.1, h.2.symm⟩
      clear hct HY HN HZ
      go_wp2_with (go_at_call 92; refine (hnd.out _).mono ?_; rintro e w' ⟨rfl, rfl⟩)
      go_region_law (first
        | (refine step_call2 rfl (.tmp 26) (.tmp 28) _ rfl heg (.string s) (.int .i64 (4 + (k : Int))) (by simp [Act.eval, Act.put]) (by simp [Act.eval, Act.put]) ((hby.out _).mono ?_); rintro e w' ⟨rfl, rfl⟩; refine ⟨_, rfl, ?_⟩)
        | (refine J0.step_int (w := wr.drew) rfl (.tmp 25) (.tmp 30) rfl sp.buf.drew _ (by simp [Act.eval, Act.put]) (by simp [Act.eval, Act.put]) (by omega) sp.lt ?_; intro g1 cap1 w1 hbuf1 bel1; have y3 := (sp.drewN 1).at3 bel1; have y4 := y3.2; have y3 := y3.1))
      all_goals
        go_wp2
        go_roundw
        case rel => exact ⟨k + 1, cap1, some ⟨g1, 0, none⟩, by omega, by go_num, by rw [← HS.out]; exact (sp.drewN 1).step hbuf1 bel1⟩
        case measure => simp [intOf]; omega
    · obtain rfl : k = G0.cnt s := by omega
      have hpi : Hid (Calls Try.prog 29 #[val (B1.byteAt s 0) (B1.byteAt s 1) (B6.pairAt s 2) a (G0.cnt s) c] wr fun e w' => e = .returned (.string (R0.putI (B1.byteAt s 0) (B1.byteAt s 1) (B6.pairAt s 2) (G0.pgs s (G0.cnt s)))) ∧ Below wr.heap.size wr w') := by
        have := R2.spec_PutInode (B1.byteAt s 0) (B1.byteAt s 1) (B6.pairAt s 2) a c (G0.pgs s (G0.cnt s)) wr (by omega) (by rw [hlen]; exact sp.buf.fits) sp.buf.own.row
        rw [hlen] at this
        exact this
      rw [hlen] at HY
      have HE : Hid (((G0.cnt s : Int) < P0.need (B6.pairAt s 2) ∧ ¬ (G0.cnt s : Int) < 12) ∨ ¬ (G0.cnt s : Int) < P0.need (B6.pairAt s 2)) := by
        show _ ∨ _
        by_cases h : (G0.cnt s : Int) < P0.need (B6.pairAt s 2)
        · left
          refine ⟨h, fun h2 => ?_⟩
          exact hlt ((hct _).2 ⟨h, by omega⟩)
        · exact Or.inr h
      have hfit := sp.buf.fits
      have r0 := sp.res.c0
      have r1 := sp.res.c1
      have r2 := sp.res.c2
      have r3 := sp.res.c3
      have q0 := sp.res.f0
      have q1 := sp.res.f1
      have q2 := sp.res.f2
      have q3 := sp.res.f3
      clear hct hlt hk hlen
      have e3 : decide ((G0.cnt s : Int) < P0.need (B6.pairAt s 2)) = false ∨ ((G0.cnt s : Int) < P0.need (B6.pairAt s 2) ∧ decide ((G0.cnt s : Int) < 12) = false) := by
        rcases HE.out with ⟨h1, h2⟩ | h1
        · exact Or.inr ⟨h1, by simpa using h2⟩
        · exact Or.inl (by simpa using h1)
      clear HE
      rcases e3 with e3 | ⟨e4, e3⟩
      all_goals
        by_cases h16 : s.size = 16
        · have g16 : ((s.size : Int) != 16) = false := by simp; omega
          by_cases htx : ((R0.putI (B1.byteAt s 0) (B1.byteAt s 1) (B6.pairAt s 2) (G0.pgs s (G0.cnt s))).toList == s.toList) = true
          · go_wp2_with (first
              | (go_at_call 92; refine (hnd.out _).mono ?_; rintro e w' ⟨rfl, rfl⟩)
              | (go_at_call 29; refine hpi.out.mono ?_; rintro e w2 ⟨rfl, b2⟩; have sp2 := sp.below b2; have y0 := sp2.nd.c0; have y1 := sp2.nd.c1; have y2 := sp2.nd.c2; have y3 := sp2.nd.c3; have r0 := sp2.res.c0; have r1 := sp2.res.c1; have r2 := sp2.res.c2; have r3 := sp2.res.c3; have q0 := sp2.res.f0; have q1 := sp2.res.f1; have q2 := sp2.res.f2; have q3 := sp2.res.f3))
            have q := sp2.res.put4 (.int .i64 (B1.byteAt s 0)) (.int .i64 (B1.byteAt s 1)) (.int .i64 (B6.pairAt s 2)) (.slice a (G0.cnt s) c)
            have d := sp2.done (.int .i64 (B1.byteAt s 0)) (.int .i64 (B1.byteAt s 1)) (.int .i64 (B6.pairAt s 2)) (.slice a (G0.cnt s) c)
            exact bodyPost_ret (v := .tuple #[val (B1.byteAt s 0) (B1.byteAt s 1) (B6.pairAt s 2) a (G0.cnt s) c, .bool true]) (by simp [results, Try.results22, go_sem, q.c0, q.c1, q.c2, q.c3]) rfl (HY.out _ _ _ h16 htx d.1 hfit d.2)
          · have htx' : ((R0.putI (B1.byteAt s 0) (B1.byteAt s 1) (B6.pairAt s 2) (G0.pgs s (G0.cnt s))).toList == s.toList) = false := by simpa using htx
            go_wp2_with (first
              | (go_at_call 92; refine (hnd.out _).mono ?_; rintro e w' ⟨rfl, rfl⟩)
              | (go_at_call 29; refine hpi.out.mono ?_; rintro e w2 ⟨rfl, b2⟩; have sp2 := sp.below b2; have r0 := sp2.res.c0; have r1 := sp2.res.c1; have r2 := sp2.res.c2; have r3 := sp2.res.c3; have q0 := sp2.res.f0; have q1 := sp2.res.f1; have q2 := sp2.res.f2; have q3 := sp2.res.f3))
            have q := sp2.res.put4 (.int .i64 0) (.int .i64 0) (.int .i64 0) (.slice none 0 0)
            have d := sp2.done (.int .i64 0) (.int .i64 0) (.int .i64 0) (.slice none 0 0)
            exact bodyPost_ret (v := .tuple #[val 0 0 0 none 0 0, .bool false]) (by simp [results, Try.results22, go_sem, q.c0, q.c1, q.c2, q.c3]) rfl (HN.out _ htx' d.2)
        · have g16 : ((s.size : Int) != 16) = true := by simp; omega
          go_wp2_with (go_at_call 92; refine (hnd.out _).mono ?_; rintro e w' ⟨rfl, rfl⟩)
          have q := sp.res.put4 (.int .i64 0) (.int .i64 0) (.int .i64 0) (.slice none 0 0)
          have d := sp.done (.int .i64 0) (.int .i64 0) (.int .i64 0) (.slice none 0 0)
          exact bodyPost_ret (v := .tuple #[val 0 0 0 none 0 0, .bool false]) (by simp [results, Try.results22, go_sem, q.c0, q.c1, q.c2, q.c3]) rfl (HZ.out _ h16 d.2)
end Go.Proofs.Ytacalabjclclhaa.G4
