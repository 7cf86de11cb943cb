/- Joined texts: plain facts and contracts. -/
import Derived.Test.YtpkmeknniajahaaGreatDoorJnQ
import Derived.Test.YtpkmeknniajahaaGreatDoorJnF
import Derived.Deep.LoopGhost
set_option linter.unusedVariables false
set_option linter.unusedSimpArgs false
set_option maxRecDepth 10000
namespace Go.Proofs.YtpkmeknniajahaaGreatDoor.TX
open Go.ChangeShapes Go.WideShapes Go.ChangeAt Go.RowKit
open FI (Fl FBuf ffl ffl_length ffl_append one_file infoFile)
variable {base g n cap : Nat} {w W : World} {l : List Fl}
theorem ffl_one : ∀ (l : List Fl), ∀ x ∈ ffl l, x.oneCell' = true
 | [], x, h => by cases h
 | f :: r, x, h => by
  rw [ffl, List.mem_append] at h
  rcases h with h | h
  ·exact one_file f x h
  ·exact ffl_one r x h
def Lie (W : World) (b off : Nat) (xs : List Fl) : Prop := ∀ j u, (ffl xs)[j]? = some u → W.cell? ⟨b, off + j, none⟩ = some u
theorem fits (h : FBuf base w g n cap l) : n ≤ cap := by
 obtain ⟨_, _, h | ⟨g', c', cur, e, _, _, hc, _⟩⟩ := h
 ·cases h.1
 ·cases e
  exact hc
theorem run_files (ty : TypeId) (hbuf : FBuf base w g n cap l) (b off cx : Nat) (xs : List Fl) (hR : Lie w b off xs) (hlen : n + xs.length ≤ 1048576) (hb : base ≤ w.heap.size) :
  ∃ g' cap' w', (Builtin.append_ #[26, 26] ty #[.slice (some ⟨g, 0, none⟩) n cap, .slice (some ⟨b, off, none⟩) xs.length cx]).run Tryz.prog w = .ok (.slice (some ⟨g', 0, none⟩) (n + xs.length) cap') w' ∧ FBuf base w' g' (n + xs.length) cap' (l ++ xs) ∧ w.grownBy w' (some g) ∧ (g' = g ∨ g' = w.heap.size) := by
 obtain ⟨i0, hi, hz0, hz1, hz2⟩ := info_parts infoFile
 by_cases h0 : xs = []
 ·subst h0
  exact ⟨g, cap, w, Q1.run_append_none w 26 _ 38 i0 Tryz.underlying26 hi (some ⟨g, 0, none⟩) n cap (fits hbuf) (some ⟨b, off, none⟩) cx, by rw [List.append_nil]; exact hbuf, ⟨rfl, rfl, rfl, Nat.le_refl _, fun _ _ _ => rfl⟩, Or.inl rfl⟩
 ·have hm : 0 < xs.length := List.length_pos_iff.2 h0
  obtain ⟨g', cp, w', hrun, r1, r2, r3, r4⟩ := run_append_lies (P := Tryz.prog) w 26 ty base 38 i0 (.agg #[.int .i64 0, .string ⟨#[]⟩, .int .i64 0, .int .i64 0, .string ⟨#[]⟩]) 5 56 Tryz.underlying26 hi hz0 hz1 hz2 rfl (by omega) _ n _ hbuf.2 ⟨b, off, none⟩ xs.length cx (ffl xs) (ffl_length xs) (by
   intro j u hj
   rw [B0.add_off]
   exact hR j u hj) (ffl_one xs) hm (by unfold maxLen; omega) (by omega) hb _ rfl
  refine ⟨g', cp, w', hrun, ⟨by rw [hbuf.1]; simp, ?_⟩, r2, ?_⟩
  ·rw [ffl_append]
   exact r1
  ·rcases r3 with r3 | r3
   ·left
    have e' : g = g' := by simpa [Value.ownBlock] using r3
    exact e'.symm
   ·exact Or.inr r3
theorem files_below (hbuf : FBuf base w g n cap l) (hb : base ≤ w.heap.size) (hg : w.grownBy W (some g)) : Below base w W := F0.below_grown (Below.refl _ _) hg (fun k hk => (hbuf.2.lt k hk).1) hb
theorem one_files {ops : Array Oper} {Q : Exit → Act → World → Prop} {S : World → Prop} {A : Act} {i : Nat} {o : Oper} {listed : Array Bool} {fuel : Nat} {md : Region.Mode} (hr : Region.ready md ops listed = [i]) (hoi : ops[i]? = some o) (hw : Region.wanted o (yielded ops A.tmps) = true) (sl x : Operand)
  (ho : o.op = .call { callee := .builtin .append, args := #[sl, x], argTypes := #[26, 26] })
  (hbuf : FBuf base w g n cap l) (b off cx : Nat) (xs : List Fl) (hs : A.eval sl = .slice (some ⟨g, 0, none⟩) n cap) (hx : A.eval x = .slice (some ⟨b, off, none⟩) xs.length cx) (hR : Lie w b off xs) (hlen : n + xs.length ≤ 1048576) (hb : base ≤ w.heap.size)
  (h : ∀ g' cap' w', FBuf base w' g' (n + xs.length) cap' (l ++ xs) → Below base w w' → w.grownBy w' (some g) → S w' ∧ wpAnyH Tryz.prog md ops Q S fuel (listed.setIfInBounds i true) (A.put o.dst (.slice (some ⟨g', 0, none⟩) (n + xs.length) cap')) w') : wpAnyH Tryz.prog md ops Q S (fuel + 1) listed A w := by
 obtain ⟨g', cap', w', hrun, r1, r2, r3⟩ := run_files o.type hbuf b off cx xs hR hlen hb
 obtain ⟨h1, h2⟩ := h g' cap' w' r1 (files_below hbuf hb r2) r2
 exact Y0.one_plain hr hoi hw (by simp [execOp, ho, resolve, invoke, builtin, hs, hx, hrun, Result.andThen]) h1 h2
theorem op_files {ops : Array Oper} {Q : Exit → Act → World → Prop} {K : Act → World → Prop} {A : Act} {i : Nat} {o : Oper} (hoi : ops[i]? = some o) (hw : Region.wanted o (yielded ops A.tmps) = true) (sl x : Operand)
  (ho : o.op = .call { callee := .builtin .append, args := #[sl, x], argTypes := #[26, 26] })
  (hbuf : FBuf base w g n cap l) (b off cx : Nat) (xs : List Fl) (hs : A.eval sl = .slice (some ⟨g, 0, none⟩) n cap) (hx : A.eval x = .slice (some ⟨b, off, none⟩) xs.length cx) (hR : Lie w b off xs) (hlen : n + xs.length ≤ 1048576) (hb : base ≤ w.heap.size)
  (h : ∀ g' cap' w', FBuf base w' g' (n + xs.length) cap' (l ++ xs) → Below base w w' → w.grownBy w' (some g) → K (A.put o.dst (.slice (some ⟨g', 0, none⟩) (n + xs.length) cap')) w') : wpOp Tryz.prog ops Q i K A w := by
 obtain ⟨g', cap', w', hrun, r1, r2, r3⟩ := run_files o.type hbuf b off cx xs hR hlen hb
 unfold wpOp
 rw [hoi]
 refine Y0.of_if hw (.inl ?_)
 unfold Oper.wp
 rw [show (execOp A.eval o).run Tryz.prog w = .ok (.value (.slice (some ⟨g', 0, none⟩) (n + xs.length) cap')) w' by simp [execOp, ho, resolve, invoke, builtin, hs, hx, hrun, Result.andThen]]
 exact h g' cap' w' r1 (files_below hbuf hb r2) r2
theorem op_plain {ops : Array Oper} {Q : Exit → Act → World → Prop} {K : Act → World → Prop} {P : Program} {A : Act} {w w' : World} {u : Value} {i : Nat} {o : Oper} (ho : ops[i]? = some o) (hw : Region.wanted o (yielded ops A.tmps) = true)
  (he : (execOp A.eval o).run P w = .ok (.value u) w') (h : K (A.put o.dst u) w') : wpOp P ops Q i K A w := by
 unfold wpOp
 rw [ho]
 refine Y0.of_if hw (.inl ?_)
 unfold Oper.wp
 rw [he]
 exact h
theorem lie_one (w : World) (f : Fl) : Lie (w.alloc (.cells #[.int .i64 f.ino, .string f.path, .int .i64 f.kind, .int .i64 f.owner, .string f.data] 38)) w.heap.size 0 [f] := by
 have b := K0.blk_new [.int .i64 f.ino, .string f.path, .int .i64 f.kind, .int .i64 f.owner, .string f.data] w 38
 intro j u hj
 obtain ⟨hl, rfl⟩ := List.getElem?_eq_some_iff.1 hj
 rw [Nat.zero_add]
 exact b.cell j hl
theorem Lie.below {b off : Nat} {xs : List Fl} (h : Lie w b off xs) (hlt : b < w.heap.size) (hb : Below w.heap.size w W) : Lie W b off xs := fun j u hj => (hb.cell (p := ⟨b, off + j, none⟩) hlt).trans (h j u hj)
theorem Lie.grown {b off : Nat} {xs : List Fl} (h : Lie w b off xs) (hlt : b < w.heap.size) (hg : w.grownBy W (some g)) (hne : b ≠ g) : Lie W b off xs := fun j u hj => (World.cell?_of_block (a := ⟨b, off + j, none⟩) (hg.block b hlt (by simp; omega))).trans (h j u hj)
theorem lie_part {gl : Nat} {F : List Fl} (h : K0.Blk gl (ffl F) w) (a b : Nat) (hab : a + b ≤ F.length) : Lie w gl (a * 5) ((F.drop a).take b) := by
 have hF : ffl F = ffl (F.take a) ++ (ffl ((F.drop a).take b) ++ ffl ((F.drop a).drop b)) := by
  rw [← ffl_append, ← ffl_append, List.take_append_drop, List.take_append_drop]
 intro j u hj
 obtain ⟨hl, rfl⟩ := List.getElem?_eq_some_iff.1 hj
 have l1 : (ffl (F.take a)).length = a * 5 := by rw [ffl_length, List.length_take]; congr 1; omega
 have hlen : a * 5 + j < (ffl F).length := by rw [hF, List.length_append, List.length_append, l1]; omega
 rw [h.cell (a * 5 + j) hlen]
 congr 1
 simp only [hF]
 rw [List.getElem_append_right (by omega), List.getElem_append_left (by omega)]
 congr 1
 omega
end Go.Proofs.YtpkmeknniajahaaGreatDoor.TX
namespace Go.Proofs.YtpkmeknniajahaaGreatDoor.TS
open Go.ChangeShapes Go.WideShapes Go.ChangeAt Go.RowKit
variable {w W W' : World} {mem : ByteArray}
open J0 (IBuf Own)
open I2 (ints)
open TW (tK tZ tE cat nodesOk)
structure Two (w : World) (k g1 c1 g2 c2 : Nat) (W : World) : Prop where
 o1 : W.ownsRow w.heap.size 3 1 (.slice (some ⟨g1, 0, none⟩) k c1) k (List.replicate k (.int .i64 (-1)))
 o2 : W.ownsRow w.heap.size 9 1 (.slice (some ⟨g2, 0, none⟩) k c2) k (List.replicate k (.string ⟨#[]⟩))
 ne : g1 ≠ g2
 bel : Below w.heap.size w W
theorem two_new (w : World) : Two w 0 w.heap.size 0 (w.heap.size + 1) 0 ((w.alloc (.cells #[] 3)).alloc (.cells #[] 9)) := by
 have h2 := World.ownsRow_made (base := w.heap.size) (e := 9) (size := 1) (w.alloc (.cells #[] 3)) #[] 0 (by simp) (Nat.zero_le _) rfl
 rw [World.size_alloc] at h2
 exact ⟨(World.ownsRow_made w #[] 0 (Nat.le_refl _) (Nat.zero_le _) rfl).alloc _, h2, by omega, ((Below.refl _ _).alloc (Nat.le_refl _) _).alloc (by simp) _⟩
structure Pr (w : World) (g1 g2 : Nat) (l : List (Nat × T0.Ent)) (W : World) : Prop where
 b1 : K0.Blk g1 (pv l) W
 b2 : K0.Blk g2 (nv l) W
 ne : g1 ≠ g2
 lo : w.heap.size ≤ g1 ∧ w.heap.size ≤ g2
 bel : Below w.heap.size w W
variable {g1 g2 : Nat} {l : List (Nat × T0.Ent)}
theorem Pr.below (h : Pr w g1 g2 l W) (hb : Below W.heap.size W W') : Pr w g1 g2 l W' := ⟨h.b1.below hb, h.b2.below hb, h.ne, h.lo, h.bel.trans (hb.mono h.bel.size)⟩
theorem Pr.drew (h : Pr w g1 g2 l W) : Pr w g1 g2 l W.drew := ⟨h.b1.drew, h.b2.drew, h.ne, h.lo, h.bel.drew⟩
theorem Pr.drewN (h : Pr w g1 g2 l W) (n : Nat) : Pr w g1 g2 l (W.drewN n) := ⟨h.b1.drewN n, h.b2.drewN n, h.ne, h.lo, K0.below_drewN h.bel n⟩
theorem Two.pr {c1 c2 : Nat} (h : Two w 8 g1 c1 g2 c2 W) : Pr w g1 g2 [] W := by
 refine ⟨?_, ?_, h.ne, ⟨(h.o1.lt g1 rfl).1, (h.o2.lt g2 rfl).1⟩, h.bel⟩
 ·rw [pv_nil]
  exact owns_blk h.o1
 ·rw [nv_nil]
  exact owns_blk h.o2
theorem Pr.par (h : Pr w g1 g2 l W) {x : Nat} (hx : x < 8) : W.cell? ⟨g1, x, none⟩ = some (.int .i64 (TR.par l (x : Int))) := by
 rw [h.b1.cell x (by rw [pv_length]; exact hx)]
 simp [pv]
theorem Pr.nam (h : Pr w g1 g2 l W) {x : Nat} (hx : x < 8) : W.cell? ⟨g2, x, none⟩ = some (.string (TR.nam l (x : Int))) := by
 rw [h.b2.cell x (by rw [nv_length]; exact hx)]
 simp [nv]
theorem Pr.first (h : Pr w g1 g2 l W) {i x : Nat} {nm : ByteArray} (hx : x < 8) (hp : TR.par l (x : Int) = -1) : Pr w g1 g2 (l ++ [(i, ((x : Int), nm))]) ((W.setCell ⟨g1, x, none⟩ (.int .i64 (i : Int))).setCell ⟨g2, x, none⟩ (.string nm)) := by
 refine ⟨?_, ?_, h.ne, h.lo, (h.bel.setCell (p := ⟨g1, x, none⟩) h.lo.1 _).setCell (p := ⟨g2, x, none⟩) h.lo.2 _⟩
 ·rw [← pv_first hx hp]
  exact (h.b1.set x _).setOther h.ne.symm x _
 ·rw [← nv_first hx hp]
  exact (h.b2.setOther h.ne x _).set x _
theorem Pr.more (h : Pr w g1 g2 l W) {i x : Nat} {nm : ByteArray} (hx : x < 8) (hp : ¬ TR.par l (x : Int) = -1) : Pr w g1 g2 (l ++ [(i, ((x : Int), nm))]) (W.setCell ⟨g1, x, none⟩ (.int .i64 (-2))) := by
 refine ⟨?_, ?_, h.ne, h.lo, h.bel.setCell (p := ⟨g1, x, none⟩) h.lo.1 _⟩
 ·rw [← pv_more hx hp]
  exact h.b1.set x _
 ·rw [← nv_more hp]
  exact h.b2.setOther h.ne x _
theorem lK_eq (hm : mem.size = 768) (i : Int) : O0.lK mem i = G0.gK (O0.recd mem i) := by
 unfold O0.lK
 cases h : O0.isL mem i with
 | true => rfl
 | false =>
  unfold O0.isL at h
  rw [decide_eq_true hm, Bool.true_and] at h
  cases hI : G0.isI (O0.recd mem i) with
  | false => rw [(G0.g_no hI).1]; rfl
  | true =>
   rw [hI, Bool.true_and] at h
   have h0 : B1.byteAt (O0.recd mem i) 0 = 0 := by simpa using h
   rw [(G0.g_yes hI).1, h0]
   rfl
theorem lD_dir (hm : mem.size = 768) (i : Int) (h2 : G0.gK (O0.recd mem i) = 2) : O0.lD mem i = D1.data mem i := by
 have h := lK_eq hm i
 rw [h2] at h
 cases hL : O0.isL mem i with
 | false => rw [(O0.l_no hL).1] at h; exact absurd h (by decide)
 | true => exact (O0.l_yes hL).2.2.2.2
def Par (mem : ByteArray) (w : World) (e : Ending) (w' : World) : Prop :=
 ∃ a1 c1 a2 c2, e = .returned (.tuple #[.slice a1 8 c1, .slice a2 8 c2, .bool (nodesOk mem)]) ∧ Below w.heap.size w w' ∧ (nodesOk mem = true → ∃ g1 g2, a1 = some ⟨g1, 0, none⟩ ∧ a2 = some ⟨g2, 0, none⟩ ∧ Pr w g1 g2 (TR.flat (tE mem) 8) w')
set_option maxHeartbeats 4000000 in
theorem l04Parents (mem : ByteArray) (w : World) (hm : mem.size = 768) : Calls Tryz.prog 33 #[.string mem] w (Par mem w) := by
 have hms : mem.size ≤ 281474976710656 := by omega
 have HN : Hid (∀ g1 c1 g2 c2 w', nodesOk mem = false → Below w.heap.size w w' → Par mem w (.returned (.tuple #[.slice (some ⟨g1, 0, none⟩) 8 c1, .slice (some ⟨g2, 0, none⟩) 8 c2, .bool false])) w') := fun g1 c1 g2 c2 w' h hb => ⟨_, _, _, _, by rw [h], hb, fun h' => by rw [h] at h'; cases h'⟩
 have HY : Hid (∀ g1 c1 g2 c2 w', nodesOk mem = true → Pr w g1 g2 (TR.flat (tE mem) 8) w' → Par mem w (.returned (.tuple #[.slice (some ⟨g1, 0, none⟩) 8 c1, .slice (some ⟨g2, 0, none⟩) 8 c2, .bool true])) w') := fun g1 c1 g2 c2 w' h hp => ⟨_, _, _, _, by rw [h], hp.bel, fun _ => ⟨g1, g2, rfl, rfl, hp⟩⟩
 have t0 := two_new w
 obtain ⟨R, hR⟩ : ∃ R, Par mem w = R := ⟨_, rfl⟩
 rw [hR] at HN HY ⊢
 clear hR
 go_enter Tryz.func33, Tryz.ntmps33
 go_wp2
 go_loopw [5, 6, 7] (fun v u i w' => ∃ (k g1 c1 g2 c2 : Nat), k ≤ 8 ∧ i = .int .i64 k ∧ v = .slice (some ⟨g1, 0, none⟩) k c1 ∧ u = .slice (some ⟨g2, 0, none⟩) k c2 ∧ Two w k g1 c1 g2 c2 w') (fun _ _ i _ => 8 - (intOf i).toNat)
 case atStart => exact ⟨0, _, _, _, _, Nat.zero_le _, rfl, rfl, rfl, t0⟩
 case round =>
  obtain ⟨k, g1, c1, g2, c2, hk, rfl, rfl, rfl, tw⟩ := hrel
  clear t0
  by_cases hlt : k < 8
  ·have e1 : (k : Int) < 8 := by omega
   have hg1 := tw.o1.lt g1 rfl
   have hg2 := tw.o2.lt g2 rfl
   have HG : Hid ((w.heap.size ≤ g1 ∧ g1 < wr.heap.size) ∧ (w.heap.size ≤ g2 ∧ g2 < wr.heap.size)) := ⟨hg1, hg2⟩
   clear hg1 hg2
   go_wp2_with (first
    | (at_builtin; refine append_one 53 9 (.string ⟨#[]⟩) 16 Tryz.underlying53 infoS rfl (by decide) rfl (.tmp 26) (.tmp 27) rfl o2' (.string ⟨#[]⟩) rfl (by rfl) rfl (by rfl) (by omega) l2.size ?_; intro g4 c4 w4 o4 gr4 q4)
    | (at_builtin; refine append_one 28 3 (.int .i64 0) 8 Tryz.underlying28 I2.info3 rfl (by decide) rfl (.tmp 23) (.tmp 24) rfl tw.o1 (.int .i64 (-1)) rfl (by rfl) rfl (by rfl) (by omega) tw.bel.size ?_; intro g3 c3 w3 o3 gr3 q3; have o2' := tw.o2.kept gr3 (Or.inr (by simpa [Value.ownBlock] using tw.ne.symm)); have l2 := tw.bel.trans (TW.below_gr gr3 (HG.out.1.1) tw.bel.size)))
   have hG := HG.out
   have o3' := o3.kept gr4 (Or.inr (by
    simp only [Value.ownBlock, ne_eq, Option.some.injEq]
    rcases q3 with e | e
    ·rw [e]
     exact tw.ne
    ·omega))
   go_roundw
   case rel =>
    refine ⟨k + 1, g3, c3, g4, c4, by omega, by go_num, rfl, rfl, ⟨by rw [List.replicate_succ']; exact o3', by rw [List.replicate_succ']; exact o4, ?_, l2.trans (TW.below_gr gr4 hG.2.1 l2.size)⟩⟩
    have h3 := (o3.lt g3 rfl).2
    rcases q3 with e | e <;> rcases q4 with e' | e'
    ·rw [e, e']
     exact tw.ne
    ·omega
    ·omega
    ·omega
   case measure => simp [intOf]; omega
  ·obtain rfl : k = 8 := by omega
   have p0 := tw.pr
   clear tw
   go_wp2
   go_loopg [8] 8 (fun gk i W => ∃ k : Nat, k + gk = 8 ∧ i = .int .i64 k ∧ N0.to (fun i => D1.nodeOk mem (i : Int)) k = true ∧ Pr w g1 g2 (TR.flat (tE mem) k) W)
   case atStart => exact ⟨0, rfl, rfl, rfl, p0⟩
   case round =>
    obtain ⟨k, hk', rfl, hok, pr⟩ := hrel
    obtain ⟨go, rfl⟩ : ∃ go, go = gk := ⟨_, rfl⟩
    clear p0
    by_cases hlt2 : k < 8
    ·have e1 : (k : Int) < 8 := by omega
     have hLk : Hid (∀ W, Calls Tryz.prog 67 #[.string mem, .int .i64 (k : Int)] W fun e w' => e = .returned (.string (O0.recd mem (k : Int))) ∧ w' = W) := fun W => O1.l03Rec mem k W hms
     have hGk : Hid (∀ W, Calls Tryz.prog 66 #[.string (O0.recd mem (k : Int))] W fun e w' => ∃ (q o s : Int) (a : Option Addr) (n c : Nat), e = .returned (.tuple #[.agg #[.int .i64 q, .int .i64 o, .int .i64 s, .slice a n c], .bool (G0.isI (O0.recd mem (k : Int)))]) ∧ Below W.heap.size W w') := fun W => (G4.spec_GetInode _ W (O0.recd_size mem _ hms)).mono fun e w' ⟨a, c, he, ho, hc, hb⟩ => ⟨_, _, _, a, _, c, he, hb⟩
     have hcase := D1.node_cases mem (k : Int)
     have hLo : Hid (∀ W, Calls Tryz.prog 34 #[.string mem, .int .i64 (k : Int)] W fun e w' => ∃ (o s : Int) (a : Option Addr) (n c : Nat) (bb : Bool), e = .returned (.tuple #[.agg #[.int .i64 (G0.gK (O0.recd mem (k : Int))), .int .i64 o, .int .i64 s, .slice a n c], .string (O0.lD mem (k : Int)), .bool bb]) ∧ Below W.heap.size W w') := fun W => (O3.spec_Load mem (k : Int) W hms).mono fun e w' ⟨a, c, he, ho, hc, hb⟩ => ⟨_, _, a, _, c, _, by rw [← lK_eq hm]; exact he, hb⟩
     have hlD := fun h => lD_dir hm (k : Int) h
     have hKE : tE mem k = D1.nodeE mem (k : Int) := rfl
     have hfl : TR.flat (tE mem) (k + 1) = TR.flat (tE mem) k ++ (tE mem k).map fun e => (k, e) := rfl
     obtain ⟨rk, hrk⟩ : ∃ rk, O0.recd mem (k : Int) = rk := ⟨_, rfl⟩
     rw [hrk] at hLk hGk hcase hLo hlD
     obtain ⟨K, hK⟩ : ∃ K, G0.gK rk = K := ⟨_, rfl⟩
     rw [hK] at hcase hLo hlD
     obtain ⟨ld, hld⟩ : ∃ ld, O0.lD mem (k : Int) = ld := ⟨_, rfl⟩
     rw [hld] at hLo hlD
     have HBAD : Hid (D1.nodeOk mem (k : Int) = false → nodesOk mem = false) := fun h => N0.to_bad hlt2 h
     have HGOOD : Hid (D1.nodeOk mem (k : Int) = true → N0.to (fun i => D1.nodeOk mem (i : Int)) (k + 1) = true) := fun h => N0.to_step hok h
     clear hrk hK hld hok
     rcases hcase with ⟨gI, hp⟩ | ⟨gI, g2', hp, hE⟩ | ⟨gI, g2', hp, hE⟩
     ·rw [gI] at hGk
      have HB2 : Hid (nodesOk mem = false) := HBAD.out hp
      clear gI hp HGOOD hlD hKE hfl
      go_wp2_with (first
       | (go_at_call 67; refine (hLk.out _).mono ?_; rintro e wq ⟨rfl, rfl⟩)
       | (go_at_call 66; refine (hGk.out _).mono ?_; rintro e w2 ⟨q, o, s, a, n, c, rfl, b2⟩; have l2 := (pr.below b2).bel.alloc (pr.below b2).bel.size (.cells #[.int .i64 q, .int .i64 o, .int .i64 s, .slice a n c] 50)))
      exact HN.out _ _ _ _ _ HB2.out l2
     ·rw [gI] at hGk
      have HO : Hid (N0.to (fun i => D1.nodeOk mem (i : Int)) (k + 1) = true) := HGOOD.out hp
      have HFL : Hid (TR.flat (tE mem) (k + 1) = TR.flat (tE mem) k) := by
       show _ = _
       rw [hfl, hKE, hE]
       simp
      clear gI hp HBAD hlD hKE hfl hE
      go_wp2_with (first
       | (go_at_call 67; refine (hLk.out _).mono ?_; rintro e wq ⟨rfl, rfl⟩)
       | (go_at_call 66; refine (hGk.out _).mono ?_; rintro e w2 ⟨q, o, s, a, n, c, rfl, b2⟩; have p2 := (pr.below b2).below (K0.below_new w2 (.cells #[.int .i64 q, .int .i64 o, .int .i64 s, .slice a n c] 50)))
       | (go_at_call 34; refine (hLo.out _).mono ?_; rintro e w3 ⟨o3, s3, a3, n3, c3, bb3, rfl, b3⟩; have p3 := (p2.below b3).below (K0.below_new w3 (.cells #[.int .i64 K, .int .i64 o3, .int .i64 s3, .slice a3 n3 c3] 50)); have y0 := (K0.blk_new [.int .i64 K, .int .i64 o3, .int .i64 s3, .slice a3 n3 c3] w3 50).c0))
      go_roundg (go - 1)
      case measure => omega
      case rel => exact ⟨k + 1, by omega, by go_num, HO.out, by rw [HFL.out]; exact p3⟩
     ·rw [gI] at hGk
      have hK2 : K = 2 := by simpa using g2'
      subst hK2
      have hdd := hlD rfl
      subst hdd
      have hdsz := D1.data_le mem (k : Int) hm
      have hGD : Hid (∀ W, Calls Tryz.prog 68 #[.string (D1.data mem (k : Int))] W fun e w' => ∃ a c, e = .returned (.tuple #[.slice a (tE mem k).length c, .bool (D1.nodeOk mem (k : Int))]) ∧ V1.OwnE W.heap.size w' a (tE mem k) ∧ Below W.heap.size W w') := fun W => by
       rw [hp, hKE, hE]
       exact (V3.spec_GetDir _ W hdsz).mono fun e w' ⟨a, c, he, ho, hc, hb⟩ => ⟨a, c, he, ho, hb⟩
      obtain ⟨dd, hdd⟩ : ∃ dd, D1.data mem (k : Int) = dd := ⟨_, rfl⟩
      rw [hdd] at hGD hLo
      clear gI g2' hp hE hKE hlD hdd hdsz
      cases hnk : D1.nodeOk mem (k : Int) with
      | false =>
       rw [hnk] at hGD
       have HB2 : Hid (nodesOk mem = false) := HBAD.out hnk
       clear HGOOD HBAD hnk hfl
       go_wp2_with (first
        | (go_at_call 67; refine (hLk.out _).mono ?_; rintro e wq ⟨rfl, rfl⟩)
        | (go_at_call 66; refine (hGk.out _).mono ?_; rintro e w2 ⟨q, o, s, a, n, c, rfl, b2⟩; have p2 := (pr.below b2).below (K0.below_new w2 (.cells #[.int .i64 q, .int .i64 o, .int .i64 s, .slice a n c] 50)))
        | (go_at_call 34; refine (hLo.out _).mono ?_; rintro e w3 ⟨o3, s3, a3, n3, c3, bb3, rfl, b3⟩; have p3 := (p2.below b3).below (K0.below_new w3 (.cells #[.int .i64 2, .int .i64 o3, .int .i64 s3, .slice a3 n3 c3] 50)); have y0 := (K0.blk_new [.int .i64 2, .int .i64 o3, .int .i64 s3, .slice a3 n3 c3] w3 50).c0)
        | (go_at_call 68; refine (hGD.out _).mono ?_; rintro e w4 ⟨a4, c4, rfl, o4, b4⟩; have p4 := p3.below b4))
       exact HN.out _ _ _ _ _ HB2.out p4.bel
      | true =>
       rw [hnk] at hGD
       have HO : Hid (N0.to (fun i => D1.nodeOk mem (i : Int)) (k + 1) = true) := HGOOD.out hnk
       clear HGOOD HBAD hnk
       go_wp2_with (first
        | (go_at_call 67; refine (hLk.out _).mono ?_; rintro e wq ⟨rfl, rfl⟩)
        | (go_at_call 66; refine (hGk.out _).mono ?_; rintro e w2 ⟨q, o, s, a, n, c, rfl, b2⟩; have p2 := (pr.below b2).below (K0.below_new w2 (.cells #[.int .i64 q, .int .i64 o, .int .i64 s, .slice a n c] 50)))
        | (go_at_call 34; refine (hLo.out _).mono ?_; rintro e w3 ⟨o3, s3, a3, n3, c3, bb3, rfl, b3⟩; have p3 := (p2.below b3).below (K0.below_new w3 (.cells #[.int .i64 2, .int .i64 o3, .int .i64 s3, .slice a3 n3 c3] 50)); have y0 := (K0.blk_new [.int .i64 2, .int .i64 o3, .int .i64 s3, .slice a3 n3 c3] w3 50).c0)
        | (go_at_call 68; refine (hGD.out _).mono ?_; rintro e w4 ⟨a4, c4, rfl, o4, b4⟩; have p4 := p3.below b4; have hb41 := p3.b1.lt; have hb42 := p3.b2.lt))
       obtain ⟨B0, hB0⟩ : ∃ B0, (w3.alloc (.cells #[.int .i64 2, .int .i64 o3, .int .i64 s3, .slice a3 n3 c3] 50)).heap.size = B0 := ⟨_, rfl⟩
       rw [hB0] at o4 hb41 hb42
       clear y0 p3 p2 b2 b3 b4 hB0 hGD hLo hGk hLk pr
       have pp : Pr w g1 g2 (TR.pre (tE mem) k 0) w4 := by rw [TR.pre_zero]; exact p4
       go_loopg [16] (tE mem k).length (fun gj i W => ∃ j : Nat, j + gj = (tE mem k).length ∧ i = .int .i64 j ∧ Pr w g1 g2 (TR.pre (tE mem) k j) W ∧ V1.OwnE B0 W a4 (tE mem k))
       case atStart => exact ⟨0, by omega, rfl, pp, o4⟩
       case round =>
        obtain ⟨j, hj, rfl, pr, oe⟩ := hrel
        clear pp p4 o4
        by_cases hjl : j < (tE mem k).length
        ·have hfew : (tE mem k).length ≤ 12 := TW.few_ok mem (k : Int)
         have hmem := TR.mem_ent hjl
         have hin := (TW.sane_ok mem).ino k _ hmem
         have hps := TR.pre_succ (tE mem) k j hjl
         rcases oe with h0 | ⟨gE, ea, hgE, hkE⟩
         ·rw [h0] at hjl
          exact absurd hjl (by simp)
         subst ea
         have z1 := (hkE.done j hjl).1
         have z2 := (hkE.done j hjl).2
         obtain ⟨x, hx⟩ : ∃ x : Nat, (T0.ent (tE mem k) j).1 = (x : Int) := ⟨(T0.ent (tE mem k) j).1.toNat, by omega⟩
         obtain ⟨nm, hnm⟩ : ∃ nm, (T0.ent (tE mem k) j).2 = nm := ⟨_, rfl⟩
         have hent : T0.ent (tE mem k) j = ((x : Int), nm) := by rw [← hx, ← hnm]
         have HPS : Hid (TR.pre (tE mem) k (j + 1) = TR.pre (tE mem) k j ++ [(k, ((x : Int), nm))]) := by
          show _ = _
          rw [hps, hent]
         rw [hx] at z1 hin
         rw [hnm] at z2
         have hx8 : x < 8 := by omega
         have u1 := pr.par hx8
         have u2 := pr.nam hx8
         have f1 := pr.b1.free x (by rw [pv_length]; exact hx8)
         have f2 := pr.b2.free x (by rw [nv_length]; exact hx8)
         have d1 : (0 : Int) ≤ (j : Int) := by omega
         have d2 : (j : Int) < ((tE mem k).length : Int) := by omega
         have d3 : (0 : Int) ≤ (x : Int) := by omega
         have d4 : (x : Int) < 8 := by omega
         have HE : Hid (V1.OwnE B0 wr (some ⟨gE, 0, none⟩) (tE mem k)) := Or.inr ⟨gE, rfl, hgE, hkE⟩
         have hne1 : g1 ≠ gE := by omega
         have hne2 : g2 ≠ gE := by omega
         by_cases hpar : TR.par (TR.pre (tE mem) k j) (x : Int) = -1
         ·have hq := pr.first (i := k) (nm := nm) hx8 hpar
          have HQ : Hid (Pr w g1 g2 (TR.pre (tE mem) k (j + 1)) ((wr.setCell ⟨g1, x, none⟩ (.int .i64 (k : Int))).setCell ⟨g2, x, none⟩ (.string nm))) := by
           show Pr _ _ _ _ _
           rw [HPS.out]
           exact hq
          rw [hpar] at u1
          have z1' : (wr.setCell ⟨g1, x, none⟩ (.int .i64 (k : Int))).cell? ⟨gE, j * 2, none⟩ = some (.int .i64 (x : Int)) := by rw [World.cell?_setCell_other _ _ _ _ (fun q => hne1 (Addr.mk.inj q).1)]; exact z1
          have z2' : (wr.setCell ⟨g1, x, none⟩ (.int .i64 (k : Int))).cell? ⟨gE, j * 2 + 1, none⟩ = some (.string nm) := by rw [World.cell?_setCell_other _ _ _ _ (fun q => hne1 (Addr.mk.inj q).1)]; exact z2
          have u2' : (wr.setCell ⟨g1, x, none⟩ (.int .i64 (k : Int))).cell? ⟨g2, x, none⟩ = some (.string (TR.nam (TR.pre (tE mem) k j) (x : Int))) := by rw [World.cell?_setCell_other _ _ _ _ (fun q => pr.ne (Addr.mk.inj q).1)]; exact u2
          clear pr hq hpar hps hent hx hnm hmem hin hkE hfl
          go_wp2
          go_region
          go_wp2
          go_roundg (gk - 1)
          case measure => omega
          case rel => exact ⟨j + 1, by omega, by go_num, HQ.out.drew, (N5.ownE_set (N5.ownE_set HE.out hb41 x _) hb42 x _).below ((Below.refl _ _).drew)⟩
         ·have hq := pr.more (i := k) (nm := nm) hx8 hpar
          have HQ : Hid (Pr w g1 g2 (TR.pre (tE mem) k (j + 1)) (wr.setCell ⟨g1, x, none⟩ (.int .i64 (-2)))) := by
           show Pr _ _ _ _ _
           rw [HPS.out]
           exact hq
          have hpar' : (TR.par (TR.pre (tE mem) k j) (x : Int) == -1) = false := by simpa using hpar
          clear pr hq hpar hps hent hx hnm hmem hin hkE hfl
          go_wp2
          go_roundg (gk - 1)
          case measure => omega
          case rel => exact ⟨j + 1, by omega, by go_num, HQ.out, N5.ownE_set HE.out hb41 x _⟩
        ·have hj0 : ¬ ((j : Int) < ((tE mem k).length : Int)) := by omega
         have pfin : Pr w g1 g2 (TR.flat (tE mem) (k + 1)) wr := by
          rw [← TR.pre_all, show (tE mem k).length = j by omega]
          exact pr
         clear pr oe
         go_wp2
         go_roundg (go - 1)
         case measure => omega
         case rel => exact ⟨k + 1, by omega, by go_num, HO.out, pfin⟩
    ·obtain rfl : k = 8 := by omega
     have HO : Hid (nodesOk mem = true) := hok
     clear hok
     go_wp2
     exact HY.out _ _ _ _ _ HO.out pr
end Go.Proofs.YtpkmeknniajahaaGreatDoor.TS
