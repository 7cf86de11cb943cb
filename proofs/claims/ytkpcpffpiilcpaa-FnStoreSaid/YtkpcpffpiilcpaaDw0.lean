/- Drawing: bytes of the cursor's, and what else stays beside it. -/
import Derived.Test.YtkpcpffpiilcpaaDraw1
import Derived.Test.YtkpcpffpiilcpaaMkI
namespace Go.Proofs.Ytkpcpffpiilcpaa.C1
open Go.ChangeShapes Go.WideShapes Go.ChangeAt Go.RowKit C0
set_option linter.unusedVariables false
set_option linter.unusedSimpArgs false
set_option maxRecDepth 10000

theorem grown_new {w W1 W2 : World} {c g : Nat} (h : w.grownBy W1 (some c)) (h' : W1.grownBy W2 (some g)) (hg : w.heap.size ≤ g) : w.grownBy W2 (some c) :=
  ⟨h'.os.trans h.os, h'.tape.trans h.tape, h'.output.trans h.output, Nat.le_trans h.size h'.size, fun k hk hr => by
    rw [h'.block k (Nat.lt_of_lt_of_le hk h.size) (fun e => by have := Option.some.inj e; omega)]
    exact h.block k hk hr⟩

theorem grown_of_below {w W : World} {c : Nat} (h : Below w.heap.size w W) : w.grownBy W (some c) := ⟨h.os, h.tape, h.output, h.size, fun k hk _ => h.block k hk⟩

theorem below_of_grown {w W : World} {c : Nat} (h : w.grownBy W (some c)) (hc : w.heap.size ≤ c) : Below w.heap.size w W :=
  ⟨h.os, h.tape, h.output, h.size, fun k hk => h.block k hk (fun e => by have := Option.some.inj e; omega)⟩

set_option maxHeartbeats 2000000 in
theorem bytes_grown {w0 w : World} {c : Nat} {a : Option Addr} {len cap : Nat} (hcode : Given w0 a len) (h : St w0 w c a len cap) (hlen : len ≤ 1048576) (n : Nat) (h1 : n ≤ 1048576) :
    Calls Try.prog 38 #[.pointer (some ⟨c, 0, none⟩), .int .i64 (n : Int)] w fun e w' => (∃ s : ByteArray, s.size = n ∧ e = .returned (.string s)) ∧ St w0 w' c a len cap ∧ w.grownBy w' (some c) := by
  obtain ⟨i0, hi, hz0, hz1, hz2⟩ := info_parts info8
  have hcl := h.cur.lt
  have hn0 := h.new
  go_enter Try.func38, Try.ntmps38
  go_wp2
  go_loopw [5, 6] (fun v i w' => ∃ (k : Nat) (l : List UInt8) (g cp : Nat), k ≤ n ∧ l.length = k ∧ i = .int .i64 k ∧ v = .slice (some ⟨g, 0, none⟩) k cp ∧ w.heap.size ≤ w'.heap.size ∧ w'.ownsRow w.heap.size 5 1 (.slice (some ⟨g, 0, none⟩) k cp) k (bcells l) ∧ St w0 w' c a len cap ∧ w.grownBy w' (some c)) (fun _ i _ => n - (intOf i).toNat)
  case atStart => exact ⟨0, [], _, _, Nat.zero_le _, rfl, rfl, rfl, by simp, World.ownsRow_made w #[] 0 (Nat.le_refl _) (Nat.zero_le _) rfl, h.below ((Below.refl _ _).alloc (Nat.le_refl _) _), grown_of_below ((Below.refl _ _).alloc (Nat.le_refl _) _)⟩
  case round =>
    obtain ⟨k, l, g, cp, hk, hl, rfl, rfl, hB, hown, hst, hgr⟩ := hrel
    have hg : w.heap.size ≤ g := (hown.lt g rfl).1
    by_cases hlt : k < n
    · have hlt' : (k : Int) < (n : Int) := by omega
      go_wp2_with (first
        | (go_at_call 37; refine (below_any hcode hst hlen 256 (by omega) (by omega)).mono ?_; rintro e w1 ⟨⟨x, x0, x1, rfl⟩, s1, g1⟩; have hown1 := hown.kept g1 (Or.inr (by simp [Value.ownBlock]; omega)); have hB1 := Nat.le_trans hB g1.size)
        | (at_builtin; refine wpList_append_lies _ rfl (.tmp 13) (.tmp 17) 22 rfl w.heap.size 5 i0 (.int .u8 0) 1 1 Try.underlying22 hi hz0 hz1 hz2 rfl (by omega) _ _ _ (by rfl) (hown1.alloc _) ⟨w1.heap.size, 0, none⟩ 1 1 [.int .u8 x] (by rfl) rfl (World.news_of_block (heap_alloc_new w1 _)) (one_byte _) (by omega) (by unfold maxLen; omega) (by omega) (by simp; omega) _ rfl ?_; intro g2 cap2 w2 hown2 hgrow hat hlt2))
      go_roundw
      case rel =>
        refine ⟨k + 1, l ++ [UInt8.ofNat x.toNat], g2, cap2, by omega, by simp [hl], by go_num, rfl, ?_, ?_, ?_, ?_⟩
        · exact Nat.le_trans (by simp; omega) hgrow.size
        · have e : bcells (l ++ [UInt8.ofNat x.toNat]) = bcells l ++ [.int .u8 x] := by
            have : x.toNat < 256 := by omega
            simp [Nat.mod_eq_of_lt this]
            omega
          rw [e]
          exact hown2
        · exact (s1.below ((Below.refl _ _).alloc (Nat.le_refl _) _)).grown (g := g) hgrow (by omega) (by omega)
        · exact grown_new (grown_below (grown_trans hgr g1) ((Below.refl _ _).alloc (Nat.le_refl _) _)) hgrow hg
      case measure => simp [intOf]; omega
    · obtain rfl : k = n := by omega
      have hcv := B0.conv_back (P := Try.prog) wr 22 9 5 g 0 cp l Try.underlying22 Try.underlying5 Try.underlying9 (holds_of_owns hown) k hl.symm
      go_wp2
      go_ret
      exact ⟨⟨⟨l.toArray⟩, by show l.toArray.size = _; simp [hl], rfl⟩, hst, hgr⟩

theorem st_other {w0 w : World} {c : Nat} {a : Option Addr} {len cap : Nat} (h : St w0 w c a len cap) {B j : Nat} (hne : B ≠ c) (hB : w0.heap.size ≤ B) (v : Value) : St w0 (w.setCell ⟨B, j, none⟩ v) c a len cap :=
  ⟨h.bel.setCell (p := ⟨B, j, none⟩) hB _, h.new, h.cur.of_block (by simpa using h.cur.lt) (Below.heap_setCell _ _ _ _ (Ne.symm hne))⟩

/-- A cursor, and a device beside it that is drawn, with the place of the answer. -/
structure Dc (w0 w : World) (c : Nat) (a : Option Addr) (len cap R B : Nat) (x y : ByteArray) (W : World) : Prop where
  st : St w0 W c a len cap
  res : K0.Blk R [.string ⟨#[]⟩, .string ⟨#[]⟩] W
  dev : K0.Blk B [.string x, .string y] W
  ne : R ≠ c ∧ B ≠ c ∧ R ≠ B
  old : w.heap.size ≤ R ∧ w.heap.size ≤ B ∧ w0.heap.size ≤ R ∧ w0.heap.size ≤ B
  gr : w.grownBy W (some c)

section
variable {w0 w W W' : World} {c : Nat} {a : Option Addr} {len cap R B : Nat} {x y : ByteArray}

theorem Dc.grown (h : Dc w0 w c a len cap R B x y W) (s : St w0 W' c a len cap) (g : W.grownBy W' (some c)) : Dc w0 w c a len cap R B x y W' :=
  ⟨s, M0.blk_grown h.res g h.ne.1, M0.blk_grown h.dev g h.ne.2.1, h.ne, h.old, grown_trans h.gr g⟩

theorem Dc.below (h : Dc w0 w c a len cap R B x y W) (hb : Below W.heap.size W W') : Dc w0 w c a len cap R B x y W' :=
  ⟨h.st.below hb, h.res.below hb, h.dev.below hb, h.ne, h.old, grown_below h.gr hb⟩

theorem Dc.drew (h : Dc w0 w c a len cap R B x y W) : Dc w0 w c a len cap R B x y W.drew := h.below (K0.below_drewN (Below.refl _ _) 1)

theorem grown_setNew {w W : World} {c B j : Nat} {v : Value} (h : w.grownBy W (some c)) (hB : w.heap.size ≤ B) : w.grownBy (W.setCell ⟨B, j, none⟩ v) (some c) :=
  grown_new h (grown_set (grown_refl _ _) v) hB

theorem Dc.put (h : Dc w0 w c a len cap R B x y W) (x' y' : ByteArray) : Dc w0 w c a len cap R B x' y' ((W.setCell ⟨B, 0, none⟩ (.string x')).setCell ⟨B, 1, none⟩ (.string y')) :=
  ⟨st_other (st_other h.st h.ne.2.1 h.old.2.2.2 _) h.ne.2.1 h.old.2.2.2 _, (h.res.setOther (Ne.symm h.ne.2.2) _ _).setOther (Ne.symm h.ne.2.2) _ _, h.dev.put2 _ _, h.ne, h.old, grown_setNew (grown_setNew h.gr h.old.2.1) h.old.2.1⟩

theorem Dc.put0 (h : Dc w0 w c a len cap R B x y W) (x' : ByteArray) : Dc w0 w c a len cap R B x' y (W.setCell ⟨B, 0, none⟩ (.string x')) :=
  ⟨st_other h.st h.ne.2.1 h.old.2.2.2 _, h.res.setOther (Ne.symm h.ne.2.2) _ _, h.dev.set 0 _, h.ne, h.old, grown_setNew h.gr h.old.2.1⟩

theorem Dc.put1 (h : Dc w0 w c a len cap R B x y W) (y' : ByteArray) : Dc w0 w c a len cap R B x y' (W.setCell ⟨B, 1, none⟩ (.string y')) :=
  ⟨st_other h.st h.ne.2.1 h.old.2.2.2 _, h.res.setOther (Ne.symm h.ne.2.2) _ _, h.dev.set 1 _, h.ne, h.old, grown_setNew h.gr h.old.2.1⟩

/-- The answer laid into its place. -/
theorem Dc.fin (h : Dc w0 w c a len cap R B x y W) (u v : Value) : St w0 ((W.setCell ⟨R, 0, none⟩ u).setCell ⟨R, 1, none⟩ v) c a len cap ∧ w.grownBy ((W.setCell ⟨R, 0, none⟩ u).setCell ⟨R, 1, none⟩ v) (some c) :=
  ⟨st_other (st_other h.st h.ne.1 h.old.2.2.1 _) h.ne.1 h.old.2.2.1 _, grown_setNew (grown_setNew h.gr h.old.1) h.old.1⟩
end
end Go.Proofs.Ytkpcpffpiilcpaa.C1
