/- Joined texts: plain facts and contracts, as each part says. -/
import Derived.Test.YtifddipnboifnaaJdF
import Derived.Test.YtifddipnboifnaaJdE
import Derived.Deep.RegionLaw
import Derived.Test.YtifddipnboifnaaJdC
import Derived.Laws.MakeOwn
import Derived.Deep.RegionHeld3
import Derived.RegionTactic
import Derived.Deep.QuietTactic
import Derived.BigQuiet

/- The contract of spec.GetInode, as the given laws call it. -/
namespace Go.Proofs.Ytifddipnboifnaa.G4
open Go.ChangeShapes Go.WideShapes Go.ChangeAt Go.RowKit
set_option linter.unusedVariables false
set_option linter.unusedSimpArgs false
set_option maxRecDepth 10000

open I0 (val vals)
open G3 (Ans ans_no ans_yes)

/-- A call of two arguments, as a step of a region that draws its order. -/
theorem step_call2 {P : Program} {ops : Array Oper} {o : Oper} {A : Act} {W : World} {K : Act → World → Prop} {Q : Exit → Act → World → Prop} {E : Prop} {f : Nat} (hgd : o.guard = none) (x y : Operand) (ts : Array TypeId)
    (hop : o.op = .call { callee := .value (.func f), args := #[x, y], argTypes := ts }) (eg : ∀ args w, (callFunc f args).run P w = .ok (.enter f args) w) (vx vy : Value) (hx : A.eval x = vx) (hy : A.eval y = vy)
    (hc : Calls P f #[vx, vy] W fun e w' => ∃ u, e = .returned u ∧ K (A.put o.dst u) w') : if Region.wanted o (yielded ops A.tmps) = true then Oper.wp P o A W K Q else E := by
  have hw : Region.wanted o (yielded ops A.tmps) = true := by simp [Region.wanted, hgd]
  rw [if_pos hw]
  have he : (execOp A.eval o).run P W = .ok (.enter f #[vx, vy]) W := by
    subst hx
    subst hy
    simp [execOp, hop, resolve, go_sem, invoke, eg]
  unfold Oper.wp
  rw [he]
  refine Calls.mono hc ?_
  rintro e w' ⟨u, rfl, h⟩
  exact h

/-- The two blocks of GetInode, and the pages read so far. -/
structure Sp (w : World) (k o s : Int) (a : Option Addr) (n c : Nat) (zs : List Int) (W : World) : Prop where
  res : K0.Blk w.heap.size (vals 0 0 0 none 0 0) W
  nd : K0.Blk (w.heap.size + 1) (vals k o s a n c) W
  buf : J0.IBuf (w.heap.size + 2) W a n c zs
  lt : w.heap.size + 2 ≤ W.heap.size
  bel : Below w.heap.size w W

variable {w W W' : World} {k o s : Int} {a : Option Addr} {n c : Nat} {zs : List Int}

theorem Sp.below (h : Sp w k o s a n c zs W) (hb : Below W.heap.size W W') : Sp w k o s a n c zs W' := ⟨h.res.below hb, h.nd.below hb, h.buf.below hb, Nat.le_trans h.lt hb.size, h.bel.trans (hb.mono h.bel.size)⟩
theorem Sp.drewN (h : Sp w k o s a n c zs W) (m : Nat) : Sp w k o s a n c zs (W.drewN m) := ⟨h.res.drewN m, h.nd.drewN m, h.buf.drewN m, h.lt, K0.below_drewN h.bel m⟩

theorem sp_new (w : World) (k o s : Int) (m : Nat) : Sp w k o s none 0 0 [] (((w.alloc (.cells #[.int .i64 0, .int .i64 0, .int .i64 0, .slice none 0 0] 26)).drewN m).alloc (.cells #[.int .i64 k, .int .i64 o, .int .i64 s, .slice none 0 0] 26)) :=
  ⟨((K0.blk_new (vals 0 0 0 none 0 0) w 26).drewN m).alloc _, K0.blk_at (vals k o s none 0 0) ((w.alloc _).drewN m) 26 (by simp), J0.ibuf_nil _, by simp, (K0.below_drewN ((Below.refl _ _).alloc (Nat.le_refl _) _) m).alloc (by simp) _⟩

/-- Behind an append and the store of what it made. -/
theorem Sp.step (h : Sp w k o s a n c zs W) {g' c' : Nat} {z : Int} (hb : J0.IBuf (w.heap.size + 2) W' (some ⟨g', 0, none⟩) (n + 1) c' (zs ++ [z])) (hl : Below (w.heap.size + 2) W W') :
    Sp w k o s (some ⟨g', 0, none⟩) (n + 1) c' (zs ++ [z]) (W'.setCell ⟨w.heap.size + 1, 3, none⟩ (.slice (some ⟨g', 0, none⟩) (n + 1) c')) := by
  have r1 := J0.blk_keep h.res hl (by omega)
  have n1 := J0.blk_keep h.nd hl (by omega)
  refine ⟨r1.setOther (by omega) 3 _, n1.set 3 _, ⟨hb.1, hb.2.1, ?_⟩, ?_, (h.bel.trans (hl.mono (by omega))).setCell (p := ⟨w.heap.size + 1, 3, none⟩) (by simp) _⟩
  · rcases hb.2.2 with h0 | ⟨g, cap, cur, hv, hg, hc, r⟩
    · exact Or.inl h0
    · refine Or.inr ⟨g, cap, cur, hv, hg, ?_, r⟩
      rw [Below.heap_setCell W' ⟨w.heap.size + 1, 3, none⟩ _ g (by show g ≠ w.heap.size + 1; omega)]
      exact hc
  · have := Nat.le_trans h.lt hl.size
    simpa [World.setCell] using this

theorem Sp.at3 (h : Sp w k o s a n c zs W) (hl : Below (w.heap.size + 2) W W') : W'.cell? ⟨w.heap.size + 1, 3, none⟩ = some (.slice a n c) ∧ W'.frozen? ⟨w.heap.size + 1, 3, none⟩ = false := by
  have n1 := J0.blk_keep h.nd hl (by omega)
  exact ⟨n1.c3, n1.f3⟩

theorem Sp.done (h : Sp w k o s a n c zs W) (x y z u : Value) : J0.Own w.heap.size ((((W.setCell ⟨w.heap.size, 0, none⟩ x).setCell ⟨w.heap.size, 1, none⟩ y).setCell ⟨w.heap.size, 2, none⟩ z).setCell ⟨w.heap.size, 3, none⟩ u) a zs ∧
    Below w.heap.size w ((((W.setCell ⟨w.heap.size, 0, none⟩ x).setCell ⟨w.heap.size, 1, none⟩ y).setCell ⟨w.heap.size, 2, none⟩ z).setCell ⟨w.heap.size, 3, none⟩ u) :=
  ⟨((((h.buf.own.set (by omega) 0 x).set (by omega) 1 y).set (by omega) 2 z).set (by omega) 3 u).mono (by omega),
   (((h.bel.setCell (p := ⟨w.heap.size, 0, none⟩) (Nat.le_refl _) _).setCell (p := ⟨w.heap.size, 1, none⟩) (Nat.le_refl _) _).setCell (p := ⟨w.heap.size, 2, none⟩) (Nat.le_refl _) _).setCell (p := ⟨w.heap.size, 3, none⟩) (Nat.le_refl _) _⟩

set_option maxHeartbeats 4000000 in
theorem spec_GetInode (s : ByteArray) (w : World) (hs : s.size ≤ 281474976710656) : Calls Try.prog 15 #[.string s] w (Ans s w) := by
  have hm : s.size ≤ maxLen := by unfold maxLen; omega
  have hpa := G0.pairAt_lt s 2
  have hcl := G0.cnt_le s
  have hct := G0.cnt_lt s
  have sp0 := sp_new w (B1.byteAt s 0) (B1.byteAt s 1) (B6.pairAt s 2)
  have heg : ∀ args w, (callFunc 63 args).run Try.prog w = .ok (.enter 63 args) w := enters_of Try.func63 (by kernel_rfl) rfl
  have HY : Hid (∀ a c w', s.size = 16 → ((R0.putI (B1.byteAt s 0) (B1.byteAt s 1) (B6.pairAt s 2) (G0.pgs s (G0.cnt s))).toList == s.toList) = true → J0.Own w.heap.size w' a (G0.pgs s (G0.cnt s)) → (G0.pgs s (G0.cnt s)).length ≤ c → Below w.heap.size w w' → Ans s w (.returned (.tuple #[val (B1.byteAt s 0) (B1.byteAt s 1) (B6.pairAt s 2) a (G0.pgs s (G0.cnt s)).length c, .bool true])) w') := fun a c w' h16 htx ho hl hb => ans_yes (G0.isI_of h16 htx) ho hl hb
  have HN : Hid (∀ w', ((R0.putI (B1.byteAt s 0) (B1.byteAt s 1) (B6.pairAt s 2) (G0.pgs s (G0.cnt s))).toList == s.toList) = false → Below w.heap.size w w' → Ans s w (.returned (.tuple #[val 0 0 0 none 0 0, .bool false])) w') := fun w' htx hb => ans_no (G0.isI_not htx) hb
  have HZ : Hid (∀ w', ¬ s.size = 16 → Below w.heap.size w w' → Ans s w (.returned (.tuple #[val 0 0 0 none 0 0, .bool false])) w') := fun w' h16 hb => ans_no (G0.isI_no h16) hb
  have hlen : (G0.pgs s (G0.cnt s)).length = G0.cnt s := G0.pgs_length _ _
  obtain ⟨R, hR⟩ : ∃ R, Ans s w = R := ⟨_, rfl⟩
  rw [hR] at HY HN HZ ⊢
  clear hR
  go_enter Try.func15, Try.ntmps15
  go_wp2_with (first
    | (go_at_call 63; refine (B1.spec_ByteAt _ _ _ hm).mono ?_; rintro e w' ⟨rfl, rfl⟩)
    | (go_at_call 64; refine (B6.spec_PairAt _ _ _ hs).mono ?_; rintro e w0 ⟨rfl, m0, rfl⟩))
  go_loopw [5] (fun i w' => ∃ (k c : Nat) (a : Option Addr), k ≤ G0.cnt s ∧ i = .int .i64 (k : Int) ∧ Sp w (B1.byteAt s 0) (B1.byteAt s 1) (B6.pairAt s 2) a k c (G0.pgs s k) w') (fun i _ => 12 - (intOf i).toNat)
  case atStart => exact ⟨0, 0, none, Nat.zero_le _, rfl, sp0 m0⟩
  case round =>
    obtain ⟨k, c, a, hk, rfl, sp⟩ := hrel
    clear sp0
    have x0 := sp.nd.c0
    have x1 := sp.nd.c1
    have x2 := sp.nd.c2
    have x3 := sp.nd.c3
    have x4 := sp.nd.f3
    have hnd : Hid (∀ W, Calls Try.prog 65 #[.int .i64 (B6.pairAt s 2)] W fun e w' => e = .returned (.int .i64 (P0.need (B6.pairAt s 2))) ∧ W = w') := fun W => (P1.l03Need _ _ hpa.1 hpa.2).mono fun _ _ h => ⟨h.1, h.2.symm⟩
    by_cases hlt : k < G0.cnt s
    · obtain ⟨h1, h2⟩ := (hct k).1 hlt
      have h2' : (k : Int) < 12 := by omega
      have hwr : IntKind.i64.wrap (4 + (k : Int)) = 4 + (k : Int) := by rw [IntKind.wrap_i64]; omega
      have HS : Hid (G0.pgs s k ++ [B1.byteAt s (4 + (k : Int))] = G0.pgs s (k + 1)) := G0.pgs_succ s k
      have xa := (sp.nd.alloc (.cells #[.int .i64 (B1.byteAt s (4 + (k : Int)))] 3)).c3
      have hby : Hid (∀ W, Calls Try.prog 63 #[.string s, .int .i64 (4 + (k : Int))] W fun e w' => e = .returned (.int .i64 (B1.byteAt s (4 + (k : Int)))) ∧ W = w') := fun W => (B1.spec_ByteAt _ _ _ hm).mono fun _ _ h => ⟨h.1, h.2.symm⟩
      clear hct HY HN HZ
      go_wp2_with (go_at_call 65; refine (hnd.out _).mono ?_; rintro e w' ⟨rfl, rfl⟩)
      go_region_law (first
        | (refine step_call2 rfl (.tmp 26) (.tmp 28) _ rfl heg (.string s) (.int .i64 (4 + (k : Int))) (by simp [Act.eval, Act.put]) (by simp [Act.eval, Act.put]) ((hby.out _).mono ?_); rintro e w' ⟨rfl, rfl⟩; refine ⟨_, rfl, ?_⟩)
        | (refine J0.step_int (w := wr.drew) rfl (.tmp 25) (.tmp 30) rfl sp.buf.drew _ (by simp [Act.eval, Act.put]) (by simp [Act.eval, Act.put]) (by omega) sp.lt ?_; intro g1 cap1 w1 hbuf1 bel1; have y3 := (sp.drewN 1).at3 bel1; have y4 := y3.2; have y3 := y3.1))
      all_goals
        go_wp2
        go_roundw
        case rel => exact ⟨k + 1, cap1, some ⟨g1, 0, none⟩, by omega, by go_num, by rw [← HS.out]; exact (sp.drewN 1).step hbuf1 bel1⟩
        case measure => simp [intOf]; omega
    · obtain rfl : k = G0.cnt s := by omega
      have hpi : Hid (Calls Try.prog 22 #[val (B1.byteAt s 0) (B1.byteAt s 1) (B6.pairAt s 2) a (G0.cnt s) c] wr fun e w' => e = .returned (.string (R0.putI (B1.byteAt s 0) (B1.byteAt s 1) (B6.pairAt s 2) (G0.pgs s (G0.cnt s)))) ∧ Below wr.heap.size wr w') := by
        have := R2.spec_PutInode (B1.byteAt s 0) (B1.byteAt s 1) (B6.pairAt s 2) a c (G0.pgs s (G0.cnt s)) wr (by omega) (by rw [hlen]; exact sp.buf.fits) sp.buf.own.row
        rw [hlen] at this
        exact this
      rw [hlen] at HY
      have HE : Hid (((G0.cnt s : Int) < P0.need (B6.pairAt s 2) ∧ ¬ (G0.cnt s : Int) < 12) ∨ ¬ (G0.cnt s : Int) < P0.need (B6.pairAt s 2)) := by
        show _ ∨ _
        by_cases h : (G0.cnt s : Int) < P0.need (B6.pairAt s 2)
        · left
          refine ⟨h, fun h2 => ?_⟩
          exact hlt ((hct _).2 ⟨h, by omega⟩)
        · exact Or.inr h
      have hfit := sp.buf.fits
      have r0 := sp.res.c0
      have r1 := sp.res.c1
      have r2 := sp.res.c2
      have r3 := sp.res.c3
      have q0 := sp.res.f0
      have q1 := sp.res.f1
      have q2 := sp.res.f2
      have q3 := sp.res.f3
      clear hct hlt hk hlen
      have e3 : decide ((G0.cnt s : Int) < P0.need (B6.pairAt s 2)) = false ∨ ((G0.cnt s : Int) < P0.need (B6.pairAt s 2) ∧ decide ((G0.cnt s : Int) < 12) = false) := by
        rcases HE.out with ⟨h1, h2⟩ | h1
        · exact Or.inr ⟨h1, by simpa using h2⟩
        · exact Or.inl (by simpa using h1)
      clear HE
      rcases e3 with e3 | ⟨e4, e3⟩
      all_goals
        by_cases h16 : s.size = 16
        · have g16 : ((s.size : Int) != 16) = false := by simp; omega
          by_cases htx : ((R0.putI (B1.byteAt s 0) (B1.byteAt s 1) (B6.pairAt s 2) (G0.pgs s (G0.cnt s))).toList == s.toList) = true
          · go_wp2_with (first
              | (go_at_call 65; refine (hnd.out _).mono ?_; rintro e w' ⟨rfl, rfl⟩)
              | (go_at_call 22; refine hpi.out.mono ?_; rintro e w2 ⟨rfl, b2⟩; have sp2 := sp.below b2; have y0 := sp2.nd.c0; have y1 := sp2.nd.c1; have y2 := sp2.nd.c2; have y3 := sp2.nd.c3; have r0 := sp2.res.c0; have r1 := sp2.res.c1; have r2 := sp2.res.c2; have r3 := sp2.res.c3; have q0 := sp2.res.f0; have q1 := sp2.res.f1; have q2 := sp2.res.f2; have q3 := sp2.res.f3))
            have q := sp2.res.put4 (.int .i64 (B1.byteAt s 0)) (.int .i64 (B1.byteAt s 1)) (.int .i64 (B6.pairAt s 2)) (.slice a (G0.cnt s) c)
            have d := sp2.done (.int .i64 (B1.byteAt s 0)) (.int .i64 (B1.byteAt s 1)) (.int .i64 (B6.pairAt s 2)) (.slice a (G0.cnt s) c)
            exact bodyPost_ret (v := .tuple #[val (B1.byteAt s 0) (B1.byteAt s 1) (B6.pairAt s 2) a (G0.cnt s) c, .bool true]) (by simp [results, Try.results15, go_sem, q.c0, q.c1, q.c2, q.c3]) rfl (HY.out _ _ _ h16 htx d.1 hfit d.2)
          · have htx' : ((R0.putI (B1.byteAt s 0) (B1.byteAt s 1) (B6.pairAt s 2) (G0.pgs s (G0.cnt s))).toList == s.toList) = false := by simpa using htx
            go_wp2_with (first
              | (go_at_call 65; refine (hnd.out _).mono ?_; rintro e w' ⟨rfl, rfl⟩)
              | (go_at_call 22; refine hpi.out.mono ?_; rintro e w2 ⟨rfl, b2⟩; have sp2 := sp.below b2; have r0 := sp2.res.c0; have r1 := sp2.res.c1; have r2 := sp2.res.c2; have r3 := sp2.res.c3; have q0 := sp2.res.f0; have q1 := sp2.res.f1; have q2 := sp2.res.f2; have q3 := sp2.res.f3))
            have q := sp2.res.put4 (.int .i64 0) (.int .i64 0) (.int .i64 0) (.slice none 0 0)
            have d := sp2.done (.int .i64 0) (.int .i64 0) (.int .i64 0) (.slice none 0 0)
            exact bodyPost_ret (v := .tuple #[val 0 0 0 none 0 0, .bool false]) (by simp [results, Try.results15, go_sem, q.c0, q.c1, q.c2, q.c3]) rfl (HN.out _ htx' d.2)
        · have g16 : ((s.size : Int) != 16) = true := by simp; omega
          go_wp2_with (go_at_call 65; refine (hnd.out _).mono ?_; rintro e w' ⟨rfl, rfl⟩)
          have q := sp.res.put4 (.int .i64 0) (.int .i64 0) (.int .i64 0) (.slice none 0 0)
          have d := sp.done (.int .i64 0) (.int .i64 0) (.int .i64 0) (.slice none 0 0)
          exact bodyPost_ret (v := .tuple #[val 0 0 0 none 0 0, .bool false]) (by simp [results, Try.results15, go_sem, q.c0, q.c1, q.c2, q.c3]) rfl (HZ.out _ h16 d.2)
end Go.Proofs.Ytifddipnboifnaa.G4

/- Contracts of impl.dataOf, spec.l03Rec and spec.l03Page, as the given laws call them. -/
namespace Go.Proofs.Ytifddipnboifnaa.O1
open Go.ChangeShapes Go.WideShapes Go.ChangeAt Go.RowKit
set_option linter.unusedVariables false
set_option linter.unusedSimpArgs false
set_option maxRecDepth 10000

open I0 (val vals)

theorem wf_recAt (i : Int) : (Lit.int .i64 (L1.recAt i)).wf = true := by
  refine E4.wf_of _ ?_ ?_
  all_goals
    unfold L1.recAt
    split
    · rename_i h
      have := B1.inB_true h
      omega
    · omega

theorem l03Rec (mem : ByteArray) (i : Int) (w : World) (hs : mem.size ≤ 281474976710656) :
    Calls Try.prog 85 #[.string mem, .int .i64 i] w fun e w' => e = .returned (.string (O0.recd mem i)) ∧ w' = w := by
  have hm : mem.size ≤ maxLen := by unfold maxLen; omega
  have e : O0.recd mem i = B2.part mem (L1.recAt i) 16 := rfl
  rw [e]
  go_enter Try.func85, Try.ntmps85
  go_wp2_with (first
    | (go_at_call 30; refine (L1.spec_RecAt _ _).mono ?_; rintro e w' ⟨rfl, rfl⟩)
    | (go_at_call 71; refine (B2.spec_Part _ _ _ _ hm (wf_recAt i) (by decide)).mono ?_; rintro e w' ⟨rfl, rfl⟩))
  go_ret
  exact ⟨rfl, rfl⟩

theorem l03Page (mem : ByteArray) (z : Int) (w : World) (hs : mem.size ≤ 281474976710656) (h0 : 5 ≤ z) (h1 : z ≤ 23) :
    Calls Try.prog 86 #[.string mem, .int .i64 z] w fun e w' => e = .returned (.string (B2.part mem (z * 32) 32)) ∧ w' = w := by
  have hm : mem.size ≤ maxLen := by unfold maxLen; omega
  have hw := E4.wf_of (z * 32) (by omega) (by omega)
  go_enter Try.func86, Try.ntmps86
  go_wp2_with (go_at_call 71; refine (B2.spec_Part _ _ _ _ hm hw (by decide)).mono ?_; rintro e w' ⟨rfl, rfl⟩)
  go_ret
  exact ⟨rfl, rfl⟩

theorem make192 : ∃ C : Array Value, C.size = 192 ∧ ∀ W : World, (Instr.makeSlice 22 (.int .i64 0) (.int .i64 192)).run Try.prog W = .ok (.slice (some ⟨W.heap.size, 0, none⟩) 0 192) (W.alloc (.cells C 5)) := by
  obtain ⟨i0, hi, hz0, hz1, hz2⟩ := info_parts F0.info5
  refine ⟨madeCells (Value.int .u8 0).cells (192 * i0.size), ?_, fun W => ?_⟩
  · have : (madeCells (Value.int .u8 0).cells (192 * i0.size)).toList.length = 192 := by
      rw [show (Value.int .u8 0).cells = #[Value.int .u8 0] from rfl, toList_madeCells_one, hz1]
      simp
    simpa using this
  · exact run_make (P := Try.prog) W 22 5 i0 (.int .u8 0) Try.underlying22 hi hz0 .i64 .i64 0 192 (by omega) (by omega) (by rw [hz2]; omega) (by omega)

set_option maxHeartbeats 2000000 in
theorem dataOf (mem : ByteArray) (k o s : Int) (a : Option Addr) (c : Nat) (zs : List Int) (w : World) (hm : mem.size = 768) (hp : P0.pagesOk zs = true) (hl : zs.length ≤ 6) (hs0 : 0 ≤ s) (hs1 : s ≤ 32 * (zs.length : Int)) (hR : P0.Row w a zs) :
    Calls Try.prog 84 #[.string mem, val k o s a zs.length c] w fun e w' => e = .returned (.string ((O0.joined mem zs zs.length).extract 0 s.toNat)) ∧ Below w.heap.size w w' := by
  obtain ⟨C, hC, hmk⟩ := make192
  have hbox := K0.blk_new (vals k o s a zs.length c) w 26
  have hl0 := K0.below_new w (.cells #[.int .i64 k, .int .i64 o, .int .i64 s, .slice a zs.length c] 26)
  have hR1 := hR.below hl0
  have hbuf0 := F0.buf_none (base := (w.alloc (.cells #[.int .i64 k, .int .i64 o, .int .i64 s, .slice a zs.length c] 26)).heap.size) (w.alloc (.cells #[.int .i64 k, .int .i64 o, .int .i64 s, .slice a zs.length c] 26)) C 192 hC (by unfold maxLen; omega) (Nat.le_refl _)
  have hbuf0 := hbuf0.at (g' := w.heap.size + 1) (by simp)
  have bel0 := K0.below_new (w.alloc (.cells #[.int .i64 k, .int .i64 o, .int .i64 s, .slice a zs.length c] 26)) (.cells C 5)
  have hms : mem.size ≤ 281474976710656 := by omega
  clear hR
  go_enter Try.func84, Try.ntmps84
  go_wp2
  go_loopw [5, 12] (fun r i w' => ∃ (j g cap : Nat), j ≤ zs.length ∧ i = .int .i64 j ∧ r = .slice (some ⟨g, 0, none⟩) (32 * j) cap ∧ F0.Buf (w.alloc (.cells #[.int .i64 k, .int .i64 o, .int .i64 s, .slice a zs.length c] 26)).heap.size w' g (32 * j) cap (O0.joined mem zs j) ∧ Below (w.alloc (.cells #[.int .i64 k, .int .i64 o, .int .i64 s, .slice a zs.length c] 26)).heap.size (w.alloc (.cells #[.int .i64 k, .int .i64 o, .int .i64 s, .slice a zs.length c] 26)) w') (fun _ i _ => zs.length - (intOf i).toNat)
  case atStart => exact ⟨0, w.heap.size + 1, 192, Nat.zero_le _, rfl, rfl, hbuf0, bel0⟩
  case round =>
    obtain ⟨j, g, cap, hj, rfl, rfl, hbuf, hbel⟩ := hrel
    clear hbuf0 bel0 hmk
    by_cases hlt : j < zs.length
    · obtain ⟨b, off, rfl, hb, hc⟩ := (hR1.below hbel).get hlt
      have x1 := hc j hlt
      have hz := R0.pages_bounds hp hlt
      have hu : O0.joined mem zs (j + 1) = O0.joined mem zs j ++ B2.part mem (zs.getD j 0 * 32) 32 := rfl
      obtain ⟨z, ez⟩ : ∃ z, zs.getD j 0 = z := ⟨_, rfl⟩
      rw [ez] at x1 hz hu
      have hps := O0.page_size hm hz.1 hz.2
      have z0 : 0 ≤ z := by omega
      have z1 : z ≤ 23 := hz.2
      have e1 : (0 : Int) ≤ (j : Int) := by omega
      have e2 : (j : Int) < (zs.length : Int) := by omega
      have HU : Hid (O0.joined mem zs (j + 1) = O0.joined mem zs j ++ B2.part mem (z * 32) 32) := hu
      clear hu ez hc hz
      go_wp2_with (first
        | (go_at_call 70; refine (B2.impl_Part _ _ _ _ hms).mono ?_; rintro e w2 ⟨rfl, b2⟩; have hbuf2 := hbuf.below b2; have bel2 := hbel.trans (b2.mono hbel.size))
        | (at_builtin; refine F0.append_text rfl (.tmp 16) (.tmp 20) rfl hbuf2 (B2.part mem (z * 32) 32) (by rfl) (by rfl) (by omega) bel2.size ?_; intro g1 cap1 w3 hbuf3 bel3))
      go_roundw
      case rel =>
        rw [hps] at hbuf3
        exact ⟨j + 1, g1, cap1, by omega, by go_num, rfl, by rw [HU.out]; exact hbuf3, bel2.trans bel3⟩
      case measure => simp [intOf]; omega
    · obtain rfl : j = zs.length := by omega
      have hboxr := hbox.below hbel
      have c2 := hboxr.c2
      have hsz := O0.joined_size hm hp zs.length (Nat.le_refl _)
      have hcp : 32 * zs.length ≤ cap := by
        rcases hbuf.2.2 with ⟨h0, _⟩ | ⟨g', cap', cur, hv, _, _, hle, _⟩
        · cases h0
        · simp at hv; omega
      have hcv : (convert 22 9 (.slice (some ⟨g, 0, none⟩) s.toNat cap)).run Try.prog wr = .ok (.string ((O0.joined mem zs zs.length).extract 0 s.toNat)) wr := by
        have hb2 := hbuf
        rw [← O0.cut (O0.joined mem zs zs.length) s.toNat (by omega)] at hb2
        exact R2.conv_front hb2 s.toNat (by rw [ByteArray.size_extract]; omega)
      have i1 : s ≤ (cap : Int) := by omega
      have hfin : Below w.heap.size w wr := hl0.trans (hbel.mono hl0.size)
      clear hsz hbuf hR1 hbel hbox
      go_wp2
      go_ret
      exact ⟨rfl, hfin⟩
end Go.Proofs.Ytifddipnboifnaa.O1

/- The contract of impl.Load, as the given laws call it. -/
namespace Go.Proofs.Ytifddipnboifnaa.O2
open Go.ChangeShapes Go.WideShapes Go.ChangeAt Go.RowKit
set_option linter.unusedVariables false
set_option linter.unusedSimpArgs false
set_option maxRecDepth 10000

open I0 (val vals)

/-- What Load answers. -/
def Ans (mem : ByteArray) (i : Int) (w : World) (e : Ending) (w' : World) : Prop :=
  ∃ a c, e = .returned (.tuple #[val (O0.lK mem i) (O0.lO mem i) (O0.lS mem i) a (O0.lZ mem i).length c, .string (O0.lD mem i), .bool (O0.isL mem i)]) ∧ J0.Own w.heap.size w' a (O0.lZ mem i) ∧ (O0.lZ mem i).length ≤ c ∧ Below w.heap.size w w'

theorem ans_no {mem : ByteArray} {i : Int} {w w' : World} (h : O0.isL mem i = false) (hb : Below w.heap.size w w') : Ans mem i w (.returned (.tuple #[val 0 0 0 none 0 0, .string ⟨#[]⟩, .bool false])) w' := by
  obtain ⟨h1, h2, h3, h4, h5⟩ := O0.l_no h
  exact ⟨none, 0, by rw [h1, h2, h3, h4, h5, h]; rfl, by rw [h4]; exact Or.inl rfl, by rw [h4]; exact Nat.le_refl _, hb⟩

theorem ans_yes {mem : ByteArray} {i : Int} {w w' : World} {a : Option Addr} {c : Nat} (h : O0.isL mem i = true) (ho : J0.Own w.heap.size w' a (G0.gZ (O0.recd mem i))) (hc : (G0.gZ (O0.recd mem i)).length ≤ c) (hb : Below w.heap.size w w') :
    Ans mem i w (.returned (.tuple #[val (G0.gK (O0.recd mem i)) (G0.gO (O0.recd mem i)) (G0.gS (O0.recd mem i)) a (G0.gZ (O0.recd mem i)).length c, .string ((O0.joined mem (G0.gZ (O0.recd mem i)) (G0.gZ (O0.recd mem i)).length).extract 0 (G0.gS (O0.recd mem i)).toNat), .bool true])) w' := by
  obtain ⟨h1, h2, h3, h4, h5⟩ := O0.l_yes h
  exact ⟨a, c, by rw [h1, h2, h3, h4, h5, h], by rw [h4]; exact ho, by rw [h4]; exact hc, hb⟩

/-- The record, read, where it is none's. -/
theorem read_yes {s : ByteArray} {W : World} (hs : s.size ≤ 281474976710656) (h : G0.isI s = true) {v : Value → Value} (hv : ∀ x, I1.rec (B1.byteAt s 0) x = v x) :
    Calls Try.prog 61 #[.string s] W fun e w' => ∃ a c, e = .returned (.tuple #[v (val (G0.gK s) (G0.gO s) (G0.gS s) a (G0.gZ s).length c), .bool true]) ∧ J0.Own W.heap.size w' a (G0.gZ s) ∧ (G0.gZ s).length ≤ c ∧ Below W.heap.size W w' := by
  obtain ⟨e1, e2, e3, e4⟩ := G0.g_yes h
  rw [e1, e2, e3, e4]
  exact G3.read_yes hs h hv

/-- The answer's block and the inode's own. -/
structure Ls (w : World) (B : Nat) (k o s : Int) (a : Option Addr) (zs : List Int) (c : Nat) (W : World) : Prop where
  rs : G3.Rs w a zs W
  nb : K0.Blk B (vals k o s a zs.length c) W
  ne : w.heap.size < B

variable {w W W' : World} {B : Nat} {k o s : Int} {a : Option Addr} {zs : List Int} {c : Nat}

theorem Ls.below (h : Ls w B k o s a zs c W) (hb : Below W.heap.size W W') : Ls w B k o s a zs c W' := ⟨h.rs.below hb, h.nb.below hb, h.ne⟩
theorem Ls.drew (h : Ls w B k o s a zs c W) : Ls w B k o s a zs c W.drew := ⟨⟨h.rs.res.drew, h.rs.own.drew, h.rs.bel.drew⟩, h.nb.drew, h.ne⟩
theorem ls_new (h : G3.Rs w a zs W) : Ls w W.heap.size k o s a zs c (W.alloc (.cells #[.int .i64 k, .int .i64 o, .int .i64 s, .slice a zs.length c] 26)) :=
  ⟨h.below (K0.below_new _ _), K0.blk_new (vals k o s a zs.length c) W 26, h.res.lt⟩

set_option maxHeartbeats 2000000 in
theorem load_kind (T : TypeId) (mem : ByteArray) (i : Int) (w : World) (hm : mem.size = 768) (hI : G0.isI (O0.recd mem i) = true) (hL : O0.isL mem i = true)
    (hT : ∀ x, I1.rec (B1.byteAt (O0.recd mem i) 0) x = .iface T x)
    (hF : ∀ k o s a n c W, Calls Try.prog 83 #[.iface T (val k o s a n c)] W fun e w' => e = .returned (.bool false) ∧ Below W.heap.size W w')
    (hO : ∀ k o s a n c W, Calls Try.prog 62 #[.iface T (val k o s a n c)] W fun e w' => e = .returned (val k o s a n c) ∧ Below W.heap.size W w') :
    Calls Try.prog 37 #[.string mem, .int .i64 i] w (Ans mem i w) := by
  have hms : mem.size ≤ 281474976710656 := by omega
  have g8 : ((mem.size : Int) != 768) = false := by simp; omega
  have hrs := O0.recd_size mem i hms
  have hg := O0.got hI
  have HF : Hid (∀ a c w', J0.Own w.heap.size w' a (G0.gZ (O0.recd mem i)) → (G0.gZ (O0.recd mem i)).length ≤ c → Below w.heap.size w w' → Ans mem i w (.returned (.tuple #[val (G0.gK (O0.recd mem i)) (G0.gO (O0.recd mem i)) (G0.gS (O0.recd mem i)) a (G0.gZ (O0.recd mem i)).length c, .string ((O0.joined mem (G0.gZ (O0.recd mem i)) (G0.gZ (O0.recd mem i)).length).extract 0 (G0.gS (O0.recd mem i)).toNat), .bool true])) w') := fun a c w' => ans_yes hL
  have hr : Hid (∀ W, Calls Try.prog 61 #[.string (O0.recd mem i)] W fun e w' => ∃ a c, e = .returned (.tuple #[.iface T (val (G0.gK (O0.recd mem i)) (G0.gO (O0.recd mem i)) (G0.gS (O0.recd mem i)) a (G0.gZ (O0.recd mem i)).length c), .bool true]) ∧ J0.Own W.heap.size w' a (G0.gZ (O0.recd mem i)) ∧ (G0.gZ (O0.recd mem i)).length ≤ c ∧ Below W.heap.size W w') := fun W => read_yes hrs hI hT
  have hpt : Hid (∀ W, Calls Try.prog 70 #[.string mem, .int .i64 (L1.recAt i), .int .i64 16] W fun e w' => e = .returned (.string (O0.recd mem i)) ∧ Below W.heap.size W w') := fun W => B2.impl_Part _ _ _ _ hms
  have hFF : Hid (∀ k o s a n c W, Calls Try.prog 83 #[.iface T (val k o s a n c)] W fun e w' => e = .returned (.bool false) ∧ Below W.heap.size W w') := hF
  have hOO : Hid (∀ k o s a n c W, Calls Try.prog 62 #[.iface T (val k o s a n c)] W fun e w' => e = .returned (val k o s a n c) ∧ Below W.heap.size W w') := hO
  clear hT hI hL hrs hF hO
  obtain ⟨R, hR⟩ : ∃ R, O0.recd mem i = R := ⟨_, rfl⟩
  rw [hR] at hg HF hr hpt
  obtain ⟨K, hK⟩ : ∃ K, G0.gK R = K := ⟨_, rfl⟩
  obtain ⟨O, hO⟩ : ∃ O, G0.gO R = O := ⟨_, rfl⟩
  obtain ⟨S, hS⟩ : ∃ S, G0.gS R = S := ⟨_, rfl⟩
  obtain ⟨Z, hZ⟩ : ∃ Z, G0.gZ R = Z := ⟨_, rfl⟩
  rw [hK, hO, hS, hZ] at HF hr
  rw [hK, hS, hZ] at hg
  obtain ⟨⟨s0, s1⟩, zl, s2, hp, -⟩ := hg
  clear hK hO hS hZ hR
  have hl0 := K0.below_new w (.cells #[.int .i64 0, .int .i64 0, .int .i64 0, .slice none 0 0] 26)
  go_enter Try.func37, Try.ntmps37
  go_wp2_with (first
    | (go_at_call 29; refine (L1.impl_RecAt _ _).mono ?_; rintro e w' ⟨rfl, rfl⟩)
    | (go_at_call 70; refine (hpt.out _).mono ?_; rintro e w1 ⟨rfl, b1⟩)
    | (go_at_call 61; refine (hr.out _).mono ?_; rintro e w2 ⟨a, c, rfl, ho, hc, b2⟩; have r2 : G3.Rs w a Z w2 := G3.rs_new (b1.trans (b2.mono b1.size)) (ho.mono b1.size))
    | (go_at_call 83; refine (hFF.out _ _ _ _ _ _ _).mono ?_; rintro e w3 ⟨rfl, b3⟩; have r3 := r2.below b3)
    | (go_at_call 62; refine (hOO.out _ _ _ _ _ _ _).mono ?_; rintro e w4 ⟨rfl, b4⟩; have r4 := r3.below b4; have l4 := ls_new (k := K) (o := O) (s := S) (c := c) r4))
  have l5 := l4.drew
  have hRd : P0.Row (w4.alloc (.cells #[.int .i64 K, .int .i64 O, .int .i64 S, .slice a Z.length c] 26)).drew a Z := l5.rs.own.row
  go_region_with ((go_at_call 84; refine (O1.dataOf mem _ _ _ _ _ Z _ hm hp zl s0 s2 hRd).mono ?_; rintro e w5 ⟨rfl, b5⟩; have l6 := l5.below b5; have x0 := l6.nb.c0; have x1 := l6.nb.c1; have x2 := l6.nb.c2; have x3 := l6.nb.c3; have c0 := l6.rs.res.c0; have c1 := l6.rs.res.c1; have c2 := l6.rs.res.c2; have c3 := l6.rs.res.c3; have f0 := l6.rs.res.f0; have f1 := l6.rs.res.f1; have f2 := l6.rs.res.f2; have f3 := l6.rs.res.f3))
  all_goals
    have q := l6.rs.res.put4 (.int .i64 K) (.int .i64 O) (.int .i64 S) (.slice a Z.length c)
    have d := l6.rs.done (.int .i64 K) (.int .i64 O) (.int .i64 S) (.slice a Z.length c)
    go_wp2
    exact bodyPost_ret (v := .tuple #[val K O S a Z.length c, .string ((O0.joined mem Z Z.length).extract 0 S.toNat), .bool true]) (by simp [results, Try.results37, go_sem, q.c0, q.c1, q.c2, q.c3]) rfl (HF.out _ _ _ d.1 hc d.2)
end Go.Proofs.Ytifddipnboifnaa.O2

/- The contracts of impl.Load and spec.Load, as the given laws call them. -/
namespace Go.Proofs.Ytifddipnboifnaa.O3
open Go.ChangeShapes Go.WideShapes Go.ChangeAt Go.RowKit
set_option linter.unusedVariables false
set_option linter.unusedSimpArgs false
set_option maxRecDepth 10000

open I0 (val vals)
open O2 (Ans ans_no ans_yes)

set_option maxHeartbeats 2000000 in
theorem impl_Load (mem : ByteArray) (i : Int) (w : World) (hms : mem.size ≤ 281474976710656) : Calls Try.prog 37 #[.string mem, .int .i64 i] w (Ans mem i w) := by
  have hrs := O0.recd_size mem i hms
  have hpt : Hid (∀ W, Calls Try.prog 70 #[.string mem, .int .i64 (L1.recAt i), .int .i64 16] W fun e w' => e = .returned (.string (O0.recd mem i)) ∧ Below W.heap.size W w') := fun W => B2.impl_Part _ _ _ _ hms
  have hl0 := K0.below_new w (.cells #[.int .i64 0, .int .i64 0, .int .i64 0, .slice none 0 0] 26)
  by_cases hm : mem.size = 768
  · have g8 : ((mem.size : Int) != 768) = false := by simp; omega
    by_cases hI : G0.isI (O0.recd mem i) = true
    · by_cases h0 : B1.byteAt (O0.recd mem i) 0 = 0
      · have HF : Hid (∀ w', Below w.heap.size w w' → Ans mem i w (.returned (.tuple #[val 0 0 0 none 0 0, .string ⟨#[]⟩, .bool false])) w') := fun w' => ans_no (O0.isL_free h0)
        have hr : Hid (∀ W, Calls Try.prog 61 #[.string (O0.recd mem i)] W fun e w' => ∃ a c, e = .returned (.tuple #[.iface 114 (val (G0.gK (O0.recd mem i)) (G0.gO (O0.recd mem i)) (G0.gS (O0.recd mem i)) a (G0.gZ (O0.recd mem i)).length c), .bool true]) ∧ J0.Own W.heap.size w' a (G0.gZ (O0.recd mem i)) ∧ (G0.gZ (O0.recd mem i)).length ≤ c ∧ Below W.heap.size W w') := fun W => O2.read_yes hrs hI (fun x => by rw [I1.rec, if_pos h0])
        clear hI h0
        go_enter Try.func37, Try.ntmps37
        go_wp2_with (first
          | (go_at_call 29; refine (L1.impl_RecAt _ _).mono ?_; rintro e w' ⟨rfl, rfl⟩)
          | (go_at_call 70; refine (hpt.out _).mono ?_; rintro e w1 ⟨rfl, b1⟩)
          | (go_at_call 61; refine (hr.out _).mono ?_; rintro e w2 ⟨a, c, rfl, ho, hc, b2⟩; have r2 : G3.Rs w a _ w2 := G3.rs_new (b1.trans (b2.mono b1.size)) (ho.mono b1.size))
          | (go_at_call 83; refine (G1.isFree0 _ _ _ _ _ _ _ rfl _).mono ?_; rintro e w3 ⟨rfl, b3⟩; have r3 := r2.below b3; have c0 := r3.res.c0; have c1 := r3.res.c1; have c2 := r3.res.c2; have c3 := r3.res.c3; have f0 := r3.res.f0; have f1 := r3.res.f1; have f2 := r3.res.f2; have f3 := r3.res.f3))
        have q := r3.res.put4 (.int .i64 0) (.int .i64 0) (.int .i64 0) (.slice none 0 0)
        have d := r3.done (.int .i64 0) (.int .i64 0) (.int .i64 0) (.slice none 0 0)
        exact bodyPost_ret (v := .tuple #[val 0 0 0 none 0 0, .string ⟨#[]⟩, .bool false]) (by simp [results, Try.results37, go_sem, q.c0, q.c1, q.c2, q.c3]) rfl (HF.out _ d.2)
      · have hL := O0.isL_of hm hI h0
        by_cases h1 : B1.byteAt (O0.recd mem i) 0 = 1
        · exact O2.load_kind 108 mem i w hm hI hL (fun x => by rw [I1.rec, if_neg h0, if_pos h1]) (fun k o s a n c W => G1.isFree1 _ k o s a n c rfl W) (fun k o s a n c W => G1.inodeOf1 k o s a n c W)
        · have h2 : B1.byteAt (O0.recd mem i) 0 = 2 := by
            have := R0.ok_bounds (G0.isI_ok hI).2.2
            omega
          exact O2.load_kind 110 mem i w hm hI hL (fun x => by rw [I1.rec, if_neg h0, if_neg h1, if_pos h2]) (fun k o s a n c W => G1.isFree2 _ k o s a n c rfl W) (fun k o s a n c W => G1.inodeOf2 k o s a n c W)
    · have hI' : G0.isI (O0.recd mem i) = false := by simpa using hI
      have HF : Hid (∀ w', Below w.heap.size w w' → Ans mem i w (.returned (.tuple #[val 0 0 0 none 0 0, .string ⟨#[]⟩, .bool false])) w') := fun w' => ans_no (O0.isL_rec hI')
      have hr : Hid (∀ W, Calls Try.prog 61 #[.string (O0.recd mem i)] W fun e w' => e = .returned (.tuple #[.nilIface, .bool false]) ∧ Below W.heap.size W w') := fun W => G3.read_no hrs hI'
      clear hI hI'
      go_enter Try.func37, Try.ntmps37
      go_wp2_with (first
        | (go_at_call 29; refine (L1.impl_RecAt _ _).mono ?_; rintro e w' ⟨rfl, rfl⟩)
        | (go_at_call 70; refine (hpt.out _).mono ?_; rintro e w1 ⟨rfl, b1⟩)
        | (go_at_call 61; refine (hr.out _).mono ?_; rintro e w2 ⟨rfl, b2⟩; have r2 : G3.Rs w none [] w2 := G3.rs_new (b1.trans (b2.mono b1.size)) (Or.inl rfl); have c0 := r2.res.c0; have c1 := r2.res.c1; have c2 := r2.res.c2; have c3 := r2.res.c3; have f0 := r2.res.f0; have f1 := r2.res.f1; have f2 := r2.res.f2; have f3 := r2.res.f3))
      have q := r2.res.put4 (.int .i64 0) (.int .i64 0) (.int .i64 0) (.slice none 0 0)
      have d := r2.done (.int .i64 0) (.int .i64 0) (.int .i64 0) (.slice none 0 0)
      exact bodyPost_ret (v := .tuple #[val 0 0 0 none 0 0, .string ⟨#[]⟩, .bool false]) (by simp [results, Try.results37, go_sem, q.c0, q.c1, q.c2, q.c3]) rfl (HF.out _ d.2)
  · have g8 : ((mem.size : Int) != 768) = true := by simp; omega
    have HF : Hid (∀ w', Below w.heap.size w w' → Ans mem i w (.returned (.tuple #[val 0 0 0 none 0 0, .string ⟨#[]⟩, .bool false])) w') := fun w' => ans_no (O0.isL_size hm)
    go_enter Try.func37, Try.ntmps37
    go_wp2
    refine bodyPost_ret (v := .tuple #[val 0 0 0 none 0 0, .string ⟨#[]⟩, .bool false]) (by simp [results, Try.results37, go_sem]) rfl (HF.out _ ?_)
    go_grown

open O2 (Ls ls_new)

set_option maxHeartbeats 4000000 in
theorem spec_Load (mem : ByteArray) (i : Int) (w : World) (hms : mem.size ≤ 281474976710656) : Calls Try.prog 38 #[.string mem, .int .i64 i] w (Ans mem i w) := by
  have hrs := O0.recd_size mem i hms
  have hG : Hid (∀ W, Calls Try.prog 15 #[.string (O0.recd mem i)] W (G3.Ans (O0.recd mem i) W)) := fun W => G4.spec_GetInode _ _ hrs
  have hRc : Hid (∀ W, Calls Try.prog 85 #[.string mem, .int .i64 i] W fun e w' => e = .returned (.string (O0.recd mem i)) ∧ w' = W) := fun W => O1.l03Rec mem i W hms
  by_cases hL : O0.isL mem i = true
  · have hl := hL
    simp only [O0.isL, Bool.and_eq_true, decide_eq_true_eq, Bool.not_eq_true'] at hl
    obtain ⟨hm, hI, hk⟩ := hl
    have hk' : ¬ B1.byteAt (O0.recd mem i) 0 = 0 := of_decide_eq_false hk
    have g8 : ((mem.size : Int) != 768) = false := by simp; omega
    have hg := O0.got hI
    have hK0 : (G0.gK (O0.recd mem i) == 0) = false := by
      rw [(G0.g_yes hI).1]
      simpa using hk'
    have HF : Hid (∀ a c w', J0.Own w.heap.size w' a (G0.gZ (O0.recd mem i)) → (G0.gZ (O0.recd mem i)).length ≤ c → Below w.heap.size w w' → Ans mem i w (.returned (.tuple #[val (G0.gK (O0.recd mem i)) (G0.gO (O0.recd mem i)) (G0.gS (O0.recd mem i)) a (G0.gZ (O0.recd mem i)).length c, .string ((O0.joined mem (G0.gZ (O0.recd mem i)) (G0.gZ (O0.recd mem i)).length).extract 0 (G0.gS (O0.recd mem i)).toNat), .bool true])) w') := fun a c w' => ans_yes hL
    have hA : Hid (∀ W e w', G3.Ans (O0.recd mem i) W e w' → ∃ a c, e = .returned (.tuple #[val (G0.gK (O0.recd mem i)) (G0.gO (O0.recd mem i)) (G0.gS (O0.recd mem i)) a (G0.gZ (O0.recd mem i)).length c, .bool true]) ∧ J0.Own W.heap.size w' a (G0.gZ (O0.recd mem i)) ∧ (G0.gZ (O0.recd mem i)).length ≤ c ∧ Below W.heap.size W w') := fun W e w' ⟨a, c, he, ho, hc, hb⟩ => ⟨a, c, by rw [he, hI], ho, hc, hb⟩
    clear hk hk' hL hI hrs
    obtain ⟨R, hR⟩ : ∃ R, O0.recd mem i = R := ⟨_, rfl⟩
    rw [hR] at hg HF hA hG hRc hK0
    obtain ⟨K, hK⟩ : ∃ K, G0.gK R = K := ⟨_, rfl⟩
    obtain ⟨O, hO⟩ : ∃ O, G0.gO R = O := ⟨_, rfl⟩
    obtain ⟨S, hS⟩ : ∃ S, G0.gS R = S := ⟨_, rfl⟩
    obtain ⟨Z, hZ⟩ : ∃ Z, G0.gZ R = Z := ⟨_, rfl⟩
    rw [hK, hO, hS, hZ] at HF hA
    rw [hK, hS, hZ] at hg
    rw [hK] at hK0
    obtain ⟨⟨s0, s1⟩, zl, s2, hp, -⟩ := hg
    clear hK hO hS hZ hR
    go_enter Try.func38, Try.ntmps38
    go_wp2_with (first
      | (go_at_call 85; refine (hRc.out _).mono ?_; rintro e w' ⟨rfl, rfl⟩)
      | (go_at_call 15; refine (hG.out _).mono ?_; intro e w1 hans; obtain ⟨a, c, rfl, ho, hc, b1⟩ := hA.out _ _ _ hans; clear hans; have r1 : G3.Rs w a Z w1 := G3.rs_new b1 ho; have l1 := ls_new (k := K) (o := O) (s := S) (c := c) r1))
    obtain ⟨W1, hW1⟩ : ∃ W1, w1.alloc (.cells #[.int .i64 K, .int .i64 O, .int .i64 S, .slice a Z.length c] 26) = W1 := ⟨_, rfl⟩
    rw [hW1] at l1 ⊢
    have x0 := l1.nb.c0
    have x1 := l1.nb.c1
    have x2 := l1.nb.c2
    have x3 := l1.nb.c3
    clear hW1 b1 ho r1
    go_loop [9, 10] (fun t j => ∃ k : Nat, k ≤ Z.length ∧ j = .int .i64 k ∧ t = .string (O0.joined mem Z k)) (fun _ j => Z.length - (intOf j).toNat)
    case atStart => exact ⟨0, Nat.zero_le _, rfl, rfl⟩
    case round =>
      obtain ⟨k, hk, rfl, rfl⟩ := hrel
      have hjs := O0.joined_size hm hp k hk
      by_cases hlt : k < Z.length
      · obtain ⟨b, off, rfl, hb, hcell⟩ := l1.rs.own.row.get hlt
        have y1 := hcell k hlt
        have hz := R0.pages_bounds hp hlt
        have hu : O0.joined mem Z (k + 1) = O0.joined mem Z k ++ B2.part mem (Z.getD k 0 * 32) 32 := rfl
        obtain ⟨z, ez⟩ : ∃ z, Z.getD k 0 = z := ⟨_, rfl⟩
        rw [ez] at y1 hz hu
        have hps := O0.page_size hm hz.1 hz.2
        have e1 : (0 : Int) ≤ (k : Int) := by omega
        have e2 : (k : Int) < (Z.length : Int) := by omega
        have zz : 32 * k + 32 ≤ 9223372036854775807 := by omega
        have hpg : Hid (∀ W, Calls Try.prog 86 #[.string mem, .int .i64 z] W fun e w' => e = .returned (.string (B2.part mem (z * 32) 32)) ∧ W = w') := fun W => (O1.l03Page mem z W hms hz.1 hz.2).mono fun _ _ h => ⟨h.1, h.2.symm⟩
        have HU : Hid (O0.joined mem Z (k + 1) = O0.joined mem Z k ++ B2.part mem (z * 32) 32) := hu
        clear hu ez hcell hz
        go_wp2_with (go_at_call 86; refine (hpg.out _).mono ?_; rintro e w' ⟨rfl, rfl⟩)
        go_round
        case rel => exact ⟨k + 1, by omega, by go_num, by rw [HU.out]⟩
        case measure => simp [intOf]; omega
      · obtain rfl : k = Z.length := by omega
        have i1 : S ≤ 32 * (Z.length : Int) := s2
        have c0 := l1.rs.res.c0
        have c1 := l1.rs.res.c1
        have c2 := l1.rs.res.c2
        have c3 := l1.rs.res.c3
        have f0 := l1.rs.res.f0
        have f1 := l1.rs.res.f1
        have f2 := l1.rs.res.f2
        have f3 := l1.rs.res.f3
        have i2 : S ≤ ((32 * Z.length : Nat) : Int) := by omega
        have hnb := (((l1.nb.setOther (B' := w.heap.size) (by have := l1.ne; omega) 0 (.int .i64 K)).setOther (B' := w.heap.size) (by have := l1.ne; omega) 1 (.int .i64 O)).setOther (B' := w.heap.size) (by have := l1.ne; omega) 2 (.int .i64 S)).setOther (B' := w.heap.size) (by have := l1.ne; omega) 3 (.slice a Z.length c)
        have y2 := hnb.c2
        clear hnb
        go_wp2
        go_region
        all_goals
          have q := l1.rs.res.put4 (.int .i64 K) (.int .i64 O) (.int .i64 S) (.slice a Z.length c)
          have d := l1.rs.done (.int .i64 K) (.int .i64 O) (.int .i64 S) (.slice a Z.length c)
          go_wp2
          refine bodyPost_ret (v := .tuple #[val K O S a Z.length c, .string ((O0.joined mem Z Z.length).extract 0 S.toNat), .bool true]) (by simp [results, Try.results38, go_sem, q.c0, q.c1, q.c2, q.c3]) rfl (HF.out _ _ _ ?_ hc ?_)
          · exact d.1.drew
          · exact d.2.drew
  · have hL' : O0.isL mem i = false := by simpa using hL
    have HF : Hid (∀ w', Below w.heap.size w w' → Ans mem i w (.returned (.tuple #[val 0 0 0 none 0 0, .string ⟨#[]⟩, .bool false])) w') := fun w' => ans_no hL'
    have hA : Hid (∀ W e w', G3.Ans (O0.recd mem i) W e w' → ∃ a c, e = .returned (.tuple #[val (G0.gK (O0.recd mem i)) (G0.gO (O0.recd mem i)) (G0.gS (O0.recd mem i)) a (G0.gZ (O0.recd mem i)).length c, .bool (G0.isI (O0.recd mem i))]) ∧ J0.Own W.heap.size w' a (G0.gZ (O0.recd mem i)) ∧ (G0.gZ (O0.recd mem i)).length ≤ c ∧ Below W.heap.size W w') := fun W e w' h => h
    have hcase : ((mem.size : Int) != 768) = true ∨ (((mem.size : Int) != 768) = false ∧ G0.isI (O0.recd mem i) = false) ∨ (((mem.size : Int) != 768) = false ∧ G0.isI (O0.recd mem i) = true ∧ (G0.gK (O0.recd mem i) == 0) = true) := by
      by_cases hm : mem.size = 768
      · right
        have g8 : ((mem.size : Int) != 768) = false := by simp; omega
        cases hI : G0.isI (O0.recd mem i) with
        | false => exact Or.inl ⟨g8, rfl⟩
        | true =>
          refine Or.inr ⟨g8, rfl, ?_⟩
          rw [(G0.g_yes hI).1]
          by_cases h0 : B1.byteAt (O0.recd mem i) 0 = 0
          · simpa using h0
          · rw [O0.isL_of hm hI h0] at hL'
            cases hL'
      · left
        simp
        omega
    clear hL hL' hrs
    obtain ⟨R, hR⟩ : ∃ R, O0.recd mem i = R := ⟨_, rfl⟩
    rw [hR] at hA hG hRc hcase
    obtain ⟨K, hK⟩ : ∃ K, G0.gK R = K := ⟨_, rfl⟩
    obtain ⟨O, hO⟩ : ∃ O, G0.gO R = O := ⟨_, rfl⟩
    obtain ⟨S, hS⟩ : ∃ S, G0.gS R = S := ⟨_, rfl⟩
    obtain ⟨Z, hZ⟩ : ∃ Z, G0.gZ R = Z := ⟨_, rfl⟩
    rw [hK, hO, hS, hZ] at hA
    rw [hK] at hcase
    clear hK hO hS hZ hR
    rcases hcase with g8 | ⟨g8, gI⟩ | ⟨g8, gI, gK⟩
    all_goals
      go_enter Try.func38, Try.ntmps38
      go_wp2_with (first
        | (go_at_call 85; refine (hRc.out _).mono ?_; rintro e w' ⟨rfl, rfl⟩)
        | (go_at_call 15; refine (hG.out _).mono ?_; intro e w1 hans; obtain ⟨a, c, rfl, ho, hc, b1⟩ := hA.out _ _ _ hans; clear hans; have r1 : G3.Rs w a Z w1 := G3.rs_new b1 ho; have l1 := ls_new (k := K) (o := O) (s := S) (c := c) r1; have x0 := l1.nb.c0; have c0 := l1.rs.res.c0; have c1 := l1.rs.res.c1; have c2 := l1.rs.res.c2; have c3 := l1.rs.res.c3; have f0 := l1.rs.res.f0; have f1 := l1.rs.res.f1; have f2 := l1.rs.res.f2; have f3 := l1.rs.res.f3))
      have q := l1.rs.res.put4 (.int .i64 0) (.int .i64 0) (.int .i64 0) (.slice none 0 0)
      have d := l1.rs.done (.int .i64 0) (.int .i64 0) (.int .i64 0) (.slice none 0 0)
      exact bodyPost_ret (v := .tuple #[val 0 0 0 none 0 0, .string ⟨#[]⟩, .bool false]) (by simp [results, Try.results38, go_sem, q.c0, q.c1, q.c2, q.c3]) rfl (HF.out _ d.2)
end Go.Proofs.Ytifddipnboifnaa.O3

/- Plain facts: an entry, an inode and a directory come back from their bytes. -/
namespace Go.Proofs.Ytifddipnboifnaa.Z0
open Go
set_option linter.unusedVariables false
set_option linter.unusedSimpArgs false
set_option maxRecDepth 10000

theorem byteAt_get (s : ByteArray) (k : Nat) : B1.byteAt s (k : Int) = ((s.data.toList.getD k 0).toNat : Int) := by
  have hs := Lib.size_eq s
  unfold B1.byteAt
  split
  · rename_i h
    have hk : k < s.data.toList.length := by omega
    rw [List.getD_eq_getElem?_getD, List.getElem?_eq_getElem hk]
    simp only [Int.toNat_natCast, Option.getD_some, Array.getElem_toList]
    rfl
  · rename_i h
    have hk : s.data.toList.length ≤ k := by omega
    rw [List.getD_eq_getElem?_getD, List.getElem?_eq_none hk]
    rfl

theorem ofNat_nat (n : Nat) (h : n < 256) : ((UInt8.ofNat n).toNat : Int) = (n : Int) := by
  have := B3.ofNat_int (n : Int) (by omega) (by omega)
  simpa using this

theorem putE_list {i : Int} {s : ByteArray} (h : E0.entryOk i s = true) : (E0.putE i s).data.toList = UInt8.ofNat i.toNat :: UInt8.ofNat s.size :: (s.data.toList ++ List.replicate (14 - s.size) 0) := by
  rw [E0.putE, if_pos h]
  simp [E0.headOf, B4.nulls, ByteArray.data_append]

theorem arr_ext {a b : ByteArray} (h : a.data.toList = b.data.toList) : a = b := ByteArray.ext (Array.toList_inj.1 h)

theorem entry_back {i : Int} {s : ByteArray} (h : E0.entryOk i s = true) : E4.ino (E0.putE i s) = i ∧ E4.name (E0.putE i s) = s := by
  obtain ⟨hn, hi⟩ := E0.entryOk_true h
  have hs := E0.nameOk_size hn
  have hl := putE_list h
  have hz := T0.putE_size16 h
  obtain ⟨p, hp⟩ : ∃ p, E0.putE i s = p := ⟨_, rfl⟩
  rw [hp] at hl hz ⊢
  have e1 : B1.byteAt p 1 = (s.size : Int) := by
    show B1.byteAt p ((1 : Nat) : Int) = _
    rw [byteAt_get, hl]
    exact ofNat_nat s.size (by omega)
  refine ⟨?_, ?_⟩
  · show B1.byteAt p ((0 : Nat) : Int) = i
    rw [byteAt_get, hl]
    exact B3.ofNat_int i (by omega) (by omega)
  · rw [E4.name, e1, B2.part, show B2.lies p.size 2 (s.size : Int) = true from decide_eq_true (by omega), if_pos rfl]
    apply arr_ext
    have hsz := Lib.size_eq s
    rw [Lib.extract_data, hl, show (2 : Int).toNat = 2 from rfl, show (2 + (s.size : Int)).toNat - 2 = s.data.toList.length by omega]
    simp

theorem isE_put {i : Int} {s : ByteArray} (h : E0.entryOk i s = true) : E4.isE (E0.putE i s) = true ∧ E4.eIno (E0.putE i s) = i ∧ E4.eName (E0.putE i s) = s := by
  obtain ⟨h1, h2⟩ := entry_back h
  have hE : E4.isE (E0.putE i s) = true := by
    rw [E4.isE, h1, h2, T0.putE_size16 h]
    simp
  refine ⟨hE, ?_, ?_⟩
  · rw [E4.eIno, if_pos hE, h1]
  · rw [E4.eName, if_pos hE, h2]

theorem putI_list {k o s : Int} {zs : List Int} (h : I0.ok k o s zs = true) : (R0.putI k o s zs).data.toList = UInt8.ofNat k.toNat :: UInt8.ofNat o.toNat :: UInt8.ofNat (s % 256).toNat :: UInt8.ofNat (s / 256).toNat :: (zs.map (fun z => UInt8.ofNat z.toNat) ++ List.replicate (12 - zs.length) 0) := by
  obtain ⟨_, _, hs, _, _, _⟩ := R0.ok_bounds h
  rw [R0.putI, if_pos h]
  simp [R0.head, R0.two, R0.pg, B3.pair, show B1.inB s 0 65535 = true from decide_eq_true (by omega), B4.nulls, ByteArray.data_append]

theorem putI_size16 {k o s : Int} {zs : List Int} (h : I0.ok k o s zs = true) : (R0.putI k o s zs).size = 16 := by
  obtain ⟨_, _, hs, hl, _, _⟩ := R0.ok_bounds h
  rw [Lib.size_eq, putI_list h]
  simp
  omega

theorem pairAt_get (s : ByteArray) (k : Nat) (h : k + 1 < s.size) : B6.pairAt s (k : Int) = ((s.data.toList.getD k 0).toNat : Int) + 256 * ((s.data.toList.getD (k + 1) 0).toNat : Int) := by
  have h0 := byteAt_get s k
  have h1 := byteAt_get s (k + 1)
  rw [← h0, ← h1]
  unfold B6.pairAt B1.byteAt
  rw [dif_pos (by omega), dif_pos (by omega), dif_pos (by omega)]
  rfl

theorem inode_back {k o s : Int} {zs : List Int} (h : I0.ok k o s zs = true) : B1.byteAt (R0.putI k o s zs) 0 = k ∧ B1.byteAt (R0.putI k o s zs) 1 = o ∧ B6.pairAt (R0.putI k o s zs) 2 = s ∧ G0.pgs (R0.putI k o s zs) (G0.cnt (R0.putI k o s zs)) = zs := by
  obtain ⟨hk, ho, hs, hl, hn, hp⟩ := R0.ok_bounds h
  have hL := putI_list h
  have hz := putI_size16 h
  obtain ⟨p, hpe⟩ : ∃ p, R0.putI k o s zs = p := ⟨_, rfl⟩
  rw [hpe] at hL hz ⊢
  have e2 : B6.pairAt p 2 = s := by
    show B6.pairAt p ((2 : Nat) : Int) = _
    rw [pairAt_get p 2 (by omega), hL]
    have a1 := B3.ofNat_int (s % 256) (by omega) (by omega)
    have a2 := B3.ofNat_int (s / 256) (by omega) (by omega)
    show ((UInt8.ofNat (s % 256).toNat).toNat : Int) + 256 * ((UInt8.ofNat (s / 256).toNat).toNat : Int) = s
    rw [a1, a2]
    omega
  refine ⟨?_, ?_, e2, ?_⟩
  · show B1.byteAt p ((0 : Nat) : Int) = _
    rw [byteAt_get, hL]
    exact B3.ofNat_int k (by omega) (by omega)
  · show B1.byteAt p ((1 : Nat) : Int) = _
    rw [byteAt_get, hL]
    exact B3.ofNat_int o (by omega) (by omega)
  · have hc : G0.cnt p = zs.length := by
      unfold G0.cnt
      rw [e2, ← hn]
      omega
    rw [hc]
    apply List.ext_getElem
    · rw [G0.pgs_length]
    · intro j h1 h2
      simp only [G0.pgs, List.getElem_map, List.getElem_range]
      have hb := R0.pages_bounds hp (k := j) h2
      have hg := P0.getD_get zs j h2
      rw [show (4 : Int) + (j : Int) = ((j + 4 : Nat) : Int) by omega, byteAt_get, hL]
      have : (UInt8.ofNat k.toNat :: UInt8.ofNat o.toNat :: UInt8.ofNat (s % 256).toNat :: UInt8.ofNat (s / 256).toNat :: (zs.map (fun z => UInt8.ofNat z.toNat) ++ List.replicate (12 - zs.length) 0)).getD (j + 4) 0 = UInt8.ofNat (zs[j]).toNat := by
        simp [List.getD_eq_getElem?_getD, List.getElem?_append, h2]
      rw [this]
      rw [hg] at hb
      exact B3.ofNat_int _ (by omega) (by omega)

theorem isI_put {k o s : Int} {zs : List Int} (h : I0.ok k o s zs = true) : G0.isI (R0.putI k o s zs) = true ∧ G0.gK (R0.putI k o s zs) = k ∧ G0.gO (R0.putI k o s zs) = o ∧ G0.gS (R0.putI k o s zs) = s ∧ G0.gZ (R0.putI k o s zs) = zs := by
  obtain ⟨h1, h2, h3, h4⟩ := inode_back h
  have hI : G0.isI (R0.putI k o s zs) = true := by
    rw [G0.isI, G0.txt, h1, h2, h3, h4, putI_size16 h]
    simp
  refine ⟨hI, ?_, ?_, ?_, ?_⟩
  · rw [G0.gK, if_pos hI, h1]
  · rw [G0.gO, if_pos hI, h2]
  · rw [G0.gS, if_pos hI, h3]
  · rw [G0.gZ, if_pos hI, h4]

theorem putI_get {s : ByteArray} (h : G0.isI s = true) : R0.putI (G0.gK s) (G0.gO s) (G0.gS s) (G0.gZ s) = s := by
  have h2 := (G0.isI_ok h).2.1
  rw [G0.gK, G0.gO, G0.gS, G0.gZ, if_pos h, if_pos h, if_pos h, if_pos h]
  exact V0.toList_eq h2

theorem putE_get {s : ByteArray} (h : E4.isE s = true) : E0.putE (E4.eIno s) (E4.eName s) = s := V0.isE_eq h

theorem putD_get {s : ByteArray} (h : V0.isD s = true) : T0.putD (V0.dE s) = s := by
  obtain ⟨h1, h2, hc, hE, hD⟩ := V0.of_isD h
  rw [V0.dE, if_pos h, hc, T0.putD, if_pos hD, V0.ents_length, V0.joined_ext s _ hE _ (Nat.le_refl _) (by omega), show s.size / 16 * 16 = s.size by omega]
  exact V0.ext_all s

theorem ext_front (a b : ByteArray) (i j : Nat) (h : j ≤ a.size) : (a ++ b).extract i j = a.extract i j := by
  apply arr_ext
  have := Lib.size_eq a
  rw [Lib.extract_data, Lib.extract_data, ByteArray.data_append, Array.toList_append]
  by_cases hi : i ≤ j
  · rw [List.drop_append_of_le_length (by omega), List.take_append_of_le_length (by simp; omega)]
  · rw [show j - i = 0 by omega]
    simp

theorem ext_back (a b : ByteArray) (n m : Nat) (h : n = a.size) (hm : m = a.size + b.size) : (a ++ b).extract n m = b := by
  apply arr_ext
  have h1 := Lib.size_eq a
  have h2 := Lib.size_eq b
  rw [Lib.extract_data, ByteArray.data_append, Array.toList_append, h, h1, List.drop_left, List.take_of_length_le (by omega)]

theorem joined_chunk {es : List T0.Ent} {n : Nat} (h : T0.okUpto es n = true) : ∀ k, k ≤ n → ∀ j, j < k → (T0.joined es k).extract (j * 16) (j * 16 + 16) = E0.putE (T0.ent es j).1 (T0.ent es j).2
  | 0, _, j, hj => absurd hj (Nat.not_lt_zero _)
  | k + 1, hk, j, hj => by
    have hs := T0.joined_size h k (by omega)
    have hE := (T0.okAt_entry (T0.okUpto_at h (by omega : k < n))).1
    rw [T0.joined]
    by_cases hjk : j < k
    · rw [ext_front _ _ _ _ (by omega)]
      exact joined_chunk h k (by omega) j hjk
    · obtain rfl : j = k := by omega
      exact ext_back _ _ _ _ (by omega) (by rw [T0.putE_size16 hE]; omega)

theorem dir_back {es : List T0.Ent} (h : T0.dirOk es = true) : (T0.putD es).size = es.length * 16 ∧ V0.isD (T0.putD es) = true ∧ V0.dE (T0.putD es) = es := by
  have hd := h
  simp only [T0.dirOk, Bool.and_eq_true, decide_eq_true_eq] at hd
  have hz : (T0.putD es).size = es.length * 16 := by
    rw [T0.putD, if_pos h, T0.joined_size hd.2 _ (Nat.le_refl _)]
    omega
  have hq : (T0.putD es).size / 16 = es.length := by omega
  have hch : ∀ j, j < es.length → V0.chunk (T0.putD es) j = E0.putE (T0.ent es j).1 (T0.ent es j).2 := by
    intro j hj
    rw [V0.chunk_eq _ _ (by omega), T0.putD, if_pos h]
    exact joined_chunk hd.2 _ (Nat.le_refl _) j hj
  have hok : ∀ j, j < es.length → E0.entryOk (T0.ent es j).1 (T0.ent es j).2 = true := fun j hj => (T0.okAt_entry (T0.okUpto_at hd.2 hj)).1
  have hents : V0.ents (T0.putD es) es.length = es := by
    apply List.ext_getElem
    · rw [V0.ents_length]
    · intro j h1 h2
      have e := V0.ents_get (T0.putD es) es.length j h2
      rw [T0.ent_get _ _ h1] at e
      rw [e, hch j h2, (isE_put (hok j h2)).2.1, (isE_put (hok j h2)).2.2, T0.ent_get es j h2]
  have hI := V0.isD_of (s := T0.putD es) (by omega) (by omega) (fun j hj => by rw [hq] at hj; rw [hch j hj]; exact (isE_put (hok j hj)).1) (by rw [hq, hents]; exact h)
  refine ⟨hz, hI.1, ?_⟩
  rw [V0.dE, if_pos hI.1, hI.2, hq, hents]
end Go.Proofs.Ytifddipnboifnaa.Z0

/- The draws of laws.FnDir, and the laws' own comparisons over entries, numbers and inodes. -/
namespace Go.Proofs.Ytifddipnboifnaa.C1
open Go.ChangeShapes Go.WideShapes Go.ChangeAt Go.RowKit C0
set_option linter.unusedVariables false
set_option linter.unusedSimpArgs false
set_option maxRecDepth 10000
variable {w : World} {a : Option Addr} {len cap : Nat}

theorem draw_PutDir (hcode : Given w a len) (hlen : len ≤ 1048576) :
    Calls Try.prog 31 #[.slice a len cap] w fun e w' => ∃ (p : Option Addr) (cp : Nat) (es : List T0.Ent), es.length ≤ 13 ∧ e = .returned (.slice p es.length cp) ∧ T0.Row w' p es ∧ es.length ≤ cp ∧ Short es ∧ Below w.heap.size w w' := by
  go_enter Try.func31, Try.ntmps31
  go_wp2_with (first
    | (go_at_call 58; refine (new_any hcode hlen).mono ?_; rintro e w1 ⟨c, rfl, s1⟩)
    | (go_at_call 80; refine (l03Dir hcode s1 hlen).mono ?_; rintro e w2 ⟨p, cp, es, hel, rfl, ho, hcp, hsh, s2, g2⟩))
  go_ret
  exact ⟨p, cp, es, hel, rfl, ho.row, hcp, hsh, s2.bel⟩

theorem draw_GetDir (hcode : Given w a len) (hlen : len ≤ 1048576) :
    Calls Try.prog 33 #[.slice a len cap] w fun e w' => ∃ s : ByteArray, s.size ≤ 100100 ∧ e = .returned (.string s) ∧ Below w.heap.size w w' := by
  go_enter Try.func33, Try.ntmps33
  go_wp2_with (first
    | (go_at_call 58; refine (new_any hcode hlen).mono ?_; rintro e w1 ⟨c, rfl, s1⟩)
    | (go_at_call 80; refine (l03Dir hcode s1 hlen).mono ?_; rintro e w2 ⟨p, cp, es, hel, rfl, ho, hcp, hsh, s2, g2⟩)
    | (go_at_call 39; refine (T3.spec_PutDir p cp es _ (by omega) hcp (short_fits hsh) ho.row).mono ?_; rintro e w3 ⟨rfl, b3⟩; have s3 := s2.below b3; have hd := putD_size es)
    | (go_at_call 60; refine (l03Spoil hcode s3 hlen _ (by omega)).mono ?_; rintro e w4 ⟨⟨t, ht, rfl⟩, s4, g4⟩))
  go_ret
  exact ⟨t, ht, rfl, s4.bel⟩

theorem draw_Load (hcode : Given w a len) (hlen : len ≤ 1048576) :
    Calls Try.prog 36 #[.slice a len cap] w fun e w' => ∃ (s : ByteArray) (i : Int), s.size ≤ 768 ∧ e = .returned (.tuple #[.string s, .int .i64 i]) ∧ Below w.heap.size w w' := by
  go_enter Try.func36, Try.ntmps36
  go_wp2_with (first
    | (go_at_call 58; refine (new_any hcode hlen).mono ?_; rintro e w1 ⟨c, rfl, s1⟩)
    | (go_at_call 82; refine (l03Mem hcode s1 hlen).mono ?_; rintro e w2 ⟨⟨u, hu, rfl⟩, s2, g2⟩)
    | (go_at_call 72; refine (below_any hcode s2 hlen 5 (by omega) (by omega)).mono ?_; rintro e w3 ⟨⟨x, x0, x1, rfl⟩, s3, g3⟩))
  go_ret2
  exact ⟨u, _, hu, rfl, s3.bel⟩
end Go.Proofs.Ytifddipnboifnaa.C1

namespace Go.Proofs.Ytifddipnboifnaa.S0
open Go.ChangeShapes Go.WideShapes Go.ChangeAt Go.RowKit
set_option linter.unusedVariables false
set_option linter.unusedSimpArgs false
set_option maxRecDepth 10000

theorem sameInts (a1 a2 : Option Addr) (c1 c2 : Nat) (zs : List Int) (w : World) (hn : zs.length ≤ 281474976710656) (h1 : P0.Row w a1 zs) (h2 : P0.Row w a2 zs) :
    Calls Try.prog 75 #[.slice a1 zs.length c1, .slice a2 zs.length c2] w fun e w' => e = .returned (.bool true) ∧ ∃ n, w' = w.drewN n := by
  go_enter Try.func75, Try.ntmps75
  go_wp2
  go_loopw [5] (fun i w' => ∃ k n : Nat, k ≤ zs.length ∧ w' = w.drewN n ∧ i = .int .i64 k) (fun i _ => zs.length - (intOf i).toNat)
  case atStart => exact ⟨0, 0, Nat.zero_le _, rfl, rfl⟩
  case round =>
    obtain ⟨k, n, hk, rfl, rfl⟩ := hrel
    by_cases hlt : k < zs.length
    · have e1 : (0 : Int) ≤ (k : Int) := by omega
      have e2 : (k : Int) < (zs.length : Int) := by omega
      obtain ⟨b1, off1, rfl, hb1, hc1⟩ := h1.get hlt
      obtain ⟨b2, off2, rfl, hb2, hc2⟩ := h2.get hlt
      have x1 := hc1 k hlt
      have x2 := hc2 k hlt
      obtain ⟨z, ez⟩ : ∃ z, zs.getD k 0 = z := ⟨_, rfl⟩
      rw [ez] at x1 x2
      clear ez hc1 hc2 h1 h2
      go_wp2
      go_quiet (fail)
      go_wp2
      go_roundw
      case rel => exact ⟨k + 1, _, by omega, rfl, by go_num⟩
      case measure => simp [intOf]; omega
    · clear h1 h2
      go_wp2
      go_ret
      exact ⟨rfl, _, rfl⟩

set_option maxHeartbeats 2000000 in
theorem sameEntries (a1 a2 : Option Addr) (c1 c2 : Nat) (es : List T0.Ent) (w : World) (hn : es.length ≤ 1048576) (h1 : T0.Row w a1 es) (h2 : T0.Row w a2 es) :
    Calls Try.prog 40 #[.slice a1 es.length c1, .slice a2 es.length c2] w fun e w' => e = .returned (.bool true) ∧ ∃ n, w' = w.drewN n := by
  go_enter Try.func40, Try.ntmps40
  go_wp2
  go_loopw [5] (fun i w' => ∃ k n : Nat, k ≤ es.length ∧ w' = w.drewN n ∧ i = .int .i64 k) (fun i _ => es.length - (intOf i).toNat)
  case atStart => exact ⟨0, 0, Nat.zero_le _, rfl, rfl⟩
  case round =>
    obtain ⟨k, n, hk, rfl, rfl⟩ := hrel
    by_cases hlt : k < es.length
    · have e1 : (0 : Int) ≤ (k : Int) := by omega
      have e2 : (k : Int) < (es.length : Int) := by omega
      obtain ⟨b1, off1, rfl, hb1, hc1⟩ := h1.get hlt
      obtain ⟨b2, off2, rfl, hb2, hc2⟩ := h2.get hlt
      have x1 := (hc1 k hlt).1
      have x2 := (hc1 k hlt).2
      have x3 := (hc2 k hlt).1
      have x4 := (hc2 k hlt).2
      obtain ⟨z, ez⟩ : ∃ z, T0.ent es k = z := ⟨_, rfl⟩
      rw [ez] at x1 x2 x3 x4
      obtain ⟨u, v⟩ := z
      simp only at x1 x2 x3 x4
      clear ez hc1 hc2 h1 h2
      go_wp2
      go_quiet (fail)
      go_wp2
      go_roundw
      case rel => exact ⟨k + 1, _, by omega, rfl, by go_num⟩
      case measure => simp [intOf]; omega
    · clear h1 h2
      go_wp2
      go_ret
      exact ⟨rfl, _, rfl⟩

set_option maxHeartbeats 2000000 in
theorem sameInode (k o s : Int) (a1 a2 : Option Addr) (c1 c2 : Nat) (zs : List Int) (w : World) (hn : zs.length ≤ 1048576) (h1 : P0.Row w a1 zs) (h2 : P0.Row w a2 zs) :
    Calls Try.prog 23 #[I0.val k o s a1 zs.length c1, I0.val k o s a2 zs.length c2] w fun e w' => e = .returned (.bool true) ∧ Below w.heap.size w w' := by
  have k1 := (K0.blk_new (I0.vals k o s a1 zs.length c1) w 26).alloc (.cells #[.int .i64 k, .int .i64 o, .int .i64 s, .slice a2 zs.length c2] 26)
  have k2 := K0.blk_at (I0.vals k o s a2 zs.length c2) (w.alloc (.cells #[.int .i64 k, .int .i64 o, .int .i64 s, .slice a1 zs.length c1] 26)) 26 (World.size_alloc _ _)
  have l0 := (K0.below_new w (.cells #[.int .i64 k, .int .i64 o, .int .i64 s, .slice a1 zs.length c1] 26)).alloc (by simp) (.cells #[.int .i64 k, .int .i64 o, .int .i64 s, .slice a2 zs.length c2] 26)
  have r1 := h1.below l0
  have r2 := h2.below l0
  have x0 := k1.c0
  have x1 := k1.c1
  have x2 := k1.c2
  have x3 := k1.c3
  have y0 := k2.c0
  have y1 := k2.c1
  have y2 := k2.c2
  have y3 := k2.c3
  go_enter Try.func23, Try.ntmps23
  go_wp2_with (go_at_call 75; refine (sameInts a1 a2 c1 c2 zs _ (by omega) r1 r2).mono ?_; rintro e w3 ⟨rfl, n, rfl⟩)
  go_ret
  exact ⟨rfl, K0.below_drewN l0 n⟩

theorem load_size {mem : ByteArray} {i : Int} (h : O0.isL mem i = true) : ((O0.lD mem i).size : Int) = O0.lS mem i := by
  have hl := h
  simp only [O0.isL, Bool.and_eq_true, decide_eq_true_eq] at hl
  obtain ⟨_, _, h3, _, h5⟩ := O0.l_yes h
  obtain ⟨⟨g0, g1⟩, g2, g3, g4, _⟩ := O0.got hl.2.1
  have hj := O0.joined_size hl.1 g4 _ (Nat.le_refl _)
  rw [h3, h5, ByteArray.size_extract, hj]
  omega
end Go.Proofs.Ytifddipnboifnaa.S0
