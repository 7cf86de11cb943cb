/- Joined texts: plain facts and contracts, as each part says. -/
import Derived.Test.YtddlpejklpljoaaJsM
import Derived.Test.YtddlpejklpljoaaJuA
import Derived.Test.YtddlpejklpljoaaJsG

/- The contracts of impl.Used and spec.Used; what the law over them keeps. -/
namespace Go.Proofs.Ytddlpejklpljoaa.US
open Go.ChangeShapes Go.WideShapes Go.ChangeAt Go.RowKit
set_option linter.unusedVariables false
set_option linter.unusedSimpArgs false
set_option maxRecDepth 10000
variable {w W W' : World} {mem : ByteArray}
open J0 (IBuf Own)
open I2 (ints)
open TW (tK tZ tE cat nodesOk sound headOk hd)

/-- What Used answers. -/
def used (mem : ByteArray) : List Int := if sound mem = true then Y6.srt (cat (tZ mem) 8) else []
theorem used_len (mem : ByteArray) : (used mem).length ≤ 1048576 := by
  unfold used
  split
  · rw [Y6.srt_length]
    have := TW.cat_len (TW.pg_few mem) 8
    omega
  · exact Nat.zero_le _

set_option maxHeartbeats 1000000 in
theorem impl_Used (mem : ByteArray) (w : World) (hms : mem.size ≤ 281474976710656) : Calls Try.prog 18 #[.string mem] w fun e w' => ∃ a c, e = .returned (.slice a (used mem).length c) ∧ Own w.heap.size w' a (used mem) ∧ Below w.heap.size w w' := by
  have hr := TW.readTree mem w hms
  have hA : Hid (∀ e w', TW.Ans mem w e w' → ∃ p, e = .returned (.tuple #[.pointer p, .bool (sound mem)]) ∧ Below w.heap.size w w' ∧ (sound mem = true → ∃ B N F P, p = some ⟨B, 0, none⟩ ∧ w.heap.size ≤ B ∧ TW.Good mem B N F P w')) := fun e w' h => h
  cases hs : sound mem with
  | false =>
    rw [hs] at hA
    have hu : used mem = [] := by unfold used; rw [hs]; rfl
    rw [hu]
    clear hs hu
    go_enter Try.func18, Try.ntmps18
    go_wp2_with (go_at_call 34; refine hr.mono ?_; intro e w1 hans; obtain ⟨p, rfl, b1, -⟩ := hA.out _ _ hans; clear hans)
    go_ret
    exact ⟨_, _, rfl, Or.inl rfl, b1.alloc b1.size _⟩
  | true =>
    rw [hs] at hA
    have hu : used mem = Y6.srt (cat (tZ mem) 8) := by unfold used; rw [if_pos hs]
    have hp : Hid (∀ B N F P W, TW.Good mem B N F P W → Calls Try.prog 40 #[.pointer (some ⟨B, 0, none⟩)] W fun e w' => ∃ g c, e = .returned (.slice (some ⟨g, 0, none⟩) (used mem).length c) ∧ W.heap.size ≤ g ∧ K0.Blk g (ints (used mem)) w' ∧ Below W.heap.size W w') := fun B N F P W h =>
      (TW.pages W h.tb h.ps).mono fun e w' ⟨g, c, he, hc, hg, hk, hb⟩ => ⟨g, c, by rw [hu, Y6.srt_length]; exact he, hg, by rw [hu, ← Y6.merge_srt]; exact hk, hb⟩
    clear hs hu
    go_enter Try.func18, Try.ntmps18
    go_wp2_with (first
      | (go_at_call 34; refine hr.mono ?_; intro e w1 hans; obtain ⟨p, rfl, b1, hy⟩ := hA.out _ _ hans; clear hans; obtain ⟨B, N, F, P, rfl, hB, hg⟩ := hy (by trivial); clear hy)
      | (go_at_call 40; refine (hp.out _ _ _ _ _ hg).mono ?_; rintro e w2 ⟨g2, c2, rfl, hg2, k2, b2⟩))
    go_ret
    exact ⟨_, c2, rfl, Or.inr ⟨g2, rfl, Nat.le_trans b1.size hg2, k2⟩, b1.trans (b2.mono b1.size)⟩

theorem take_ins (zs : List Int) (k : Nat) (h : k < zs.length) : Y6.srt (zs.take (k + 1)) = Y5.ins (Y6.srt (zs.take k)) (zs.getD k 0) := by
  rw [List.take_succ_eq_append_getElem h, Y6.srt_snoc, P0.getD_get _ _ h]

set_option maxHeartbeats 1000000 in
theorem spec_Used (mem : ByteArray) (w : World) (hms : mem.size ≤ 281474976710656) : Calls Try.prog 17 #[.string mem] w fun e w' => ∃ a c, e = .returned (.slice a (used mem).length c) ∧ Own w.heap.size w' a (used mem) ∧ Below w.heap.size w w' := by
  have hS : Hid (∀ W, Calls Try.prog 8 #[.string mem] W fun e w' => e = .returned (.bool (sound mem)) ∧ Below W.heap.size W w') := fun W => TS.spec_Sound mem W hms
  have how : Hid (∀ W, Calls Try.prog 30 #[.string mem] W fun e w' => ∃ a c, e = .returned (.slice a (cat (tZ mem) 8).length c) ∧ (cat (tZ mem) 8).length ≤ c ∧ Own W.heap.size w' a (cat (tZ mem) 8) ∧ Below W.heap.size W w') := fun W => TS.l04Owned mem W hms
  have l0 := K0.below_new w (.cells #[] 3)
  have b0 := J0.ibuf_made (base := w.heap.size) w (Nat.le_refl _)
  cases hs : sound mem with
  | false =>
    rw [hs] at hS
    have hu : used mem = [] := by unfold used; rw [hs]; rfl
    rw [hu]
    clear hs hu how
    go_enter Try.func17, Try.ntmps17
    go_wp2_with (go_at_call 8; refine (hS.out _).mono ?_; rintro e w1 ⟨rfl, b1⟩)
    go_ret
    exact ⟨_, _, rfl, Or.inl rfl, l0.trans (b1.mono l0.size)⟩
  | true =>
    rw [hs] at hS
    have hu : used mem = Y6.srt (cat (tZ mem) 8) := by unfold used; rw [if_pos hs]
    rw [hu]
    have hlen := TW.cat_len (TW.pg_few mem) 8
    obtain ⟨zs, hzs⟩ : ∃ zs, cat (tZ mem) 8 = zs := ⟨_, rfl⟩
    rw [hzs] at how hlen ⊢
    clear hs hu hzs
    go_enter Try.func17, Try.ntmps17
    go_wp2_with (first
      | (go_at_call 8; refine (hS.out _).mono ?_; rintro e w1 ⟨rfl, b1⟩; have l1 := l0.trans (b1.mono l0.size))
      | (go_at_call 30; refine (how.out _).mono ?_; rintro e w2 ⟨a2, c2, rfl, hc2, o2, b2⟩))
    have bf : IBuf w.heap.size w2 (some ⟨w.heap.size, 0, none⟩) 0 0 [] := (b0.below b1).below b2
    have l2 := l1.trans (b2.mono l1.size)
    have r2 := o2.row
    clear b0 l0 l1 b1 b2 hS how
    go_loopw [3, 5] (fun v i W => ∃ (k g c : Nat), k ≤ zs.length ∧ i = .int .i64 k ∧ v = .slice (some ⟨g, 0, none⟩) k c ∧ IBuf w.heap.size W (some ⟨g, 0, none⟩) k c (Y6.srt (zs.take k)) ∧ P0.Row W a2 zs ∧ Below w.heap.size w W) (fun _ i _ => zs.length - (intOf i).toNat)
    case atStart => exact ⟨0, _, 0, Nat.zero_le _, rfl, rfl, bf, r2, l2⟩
    case round =>
      obtain ⟨k, g, c, hk, rfl, rfl, hbuf, hrow, hbel⟩ := hrel
      clear bf r2 l2 o2
      by_cases hlt : k < zs.length
      · have hrow' := hrow
        obtain ⟨b, off, hab, hbl, hc⟩ := hrow.get hlt
        subst hab
        have x1 := hc k hlt
        have hsl : (Y6.srt (zs.take k)).length = k := hbuf.1.symm
        have hti := take_ins zs k hlt
        obtain ⟨z, ez⟩ : ∃ z, zs.getD k 0 = z := ⟨_, rfl⟩
        rw [ez] at x1 hti
        have e1 : (0 : Int) ≤ (k : Int) := by omega
        have e2 : (k : Int) < (zs.length : Int) := by omega
        have hrw : P0.Row wr (some ⟨g, 0, none⟩) (Y6.srt (zs.take k)) := hbuf.own.row
        have hadd := Y5.l04Add g 0 c (Y6.srt (zs.take k)) z wr (by omega) (by rw [hsl]; exact hbuf.fits) hrw
        rw [hsl, ← hti] at hadd
        have HA : Hid (Calls Try.prog 39 #[.slice (some ⟨g, 0, none⟩) k c, .int .i64 z] wr fun e w' => ∃ a' c', e = .returned (.slice a' (k + 1) c') ∧ IBuf wr.heap.size w' a' (k + 1) c' (Y6.srt (zs.take (k + 1))) ∧ Below wr.heap.size wr w') := hadd
        clear hadd hti ez hc hrw hsl
        go_wp2_with (go_at_call 39; refine HA.out.mono ?_; rintro e w3 ⟨a3, c3, rfl, bf3, b3⟩)
        have bf3' := Y2.ibuf_mono bf3 hbel.size
        obtain ⟨g3, rfl⟩ : ∃ g3, a3 = some ⟨g3, 0, none⟩ := by
          rcases bf3.2.2 with ⟨h1, h2⟩ | ⟨g', cap', cur, h1, _⟩
          · omega
          · cases h1
            exact ⟨g', rfl⟩
        go_roundw
        case rel => exact ⟨k + 1, g3, c3, by omega, by go_num, rfl, bf3', hrow'.below b3, hbel.trans (b3.mono hbel.size)⟩
        case measure => simp [intOf]; omega
      · obtain rfl : k = zs.length := by omega
        rw [List.take_length] at hbuf
        have HB : Hid (IBuf w.heap.size wr (some ⟨g, 0, none⟩) zs.length c (Y6.srt zs)) := hbuf
        clear hrow hbuf
        go_wp2
        go_ret
        exact ⟨_, c, by rw [Y6.srt_length]; rfl, HB.out.own, hbel⟩

/-- Two rows, apart; what the second holds now. -/
structure L (w : World) (aw ag : Option Addr) (Z M : List Int) (W : World) : Prop where
  bel : Below w.heap.size w W
  rows : Z = [] ∨ ∃ g1 g2, aw = some ⟨g1, 0, none⟩ ∧ ag = some ⟨g2, 0, none⟩ ∧ w.heap.size ≤ g2 ∧ g1 ≠ g2 ∧ K0.Blk g1 (ints Z) W ∧ K0.Blk g2 (ints M) W
variable {aw ag : Option Addr} {Z M : List Int} {cw cg : Nat}
theorem L.below (h : L w aw ag Z M W) (hb : Below W.heap.size W W') : L w aw ag Z M W' :=
  ⟨h.bel.trans (hb.mono h.bel.size), h.rows.imp id fun ⟨g1, g2, e1, e2, h1, h2, k1, k2⟩ => ⟨g1, g2, e1, e2, h1, h2, k1.below hb, k2.below hb⟩⟩
theorem L.roww (h : L w aw ag Z M W) : P0.Row W aw Z := by
  rcases h.rows with h0 | ⟨g1, g2, e1, e2, _, _, k1, k2⟩
  · exact Or.inl h0
  · exact e1 ▸ I2.row_of_blk k1
theorem L.rowg (h : L w aw ag Z Z W) : P0.Row W ag Z := by
  rcases h.rows with h0 | ⟨g1, g2, e1, e2, _, _, k1, k2⟩
  · exact Or.inl h0
  · exact e2 ▸ I2.row_of_blk k2
theorem l_new {w1 w2 : World} (b1 : Below w.heap.size w w1) (o1 : J0.Own w.heap.size w1 aw Z) (b2 : Below w1.heap.size w1 w2) (o2 : J0.Own w1.heap.size w2 ag Z) : L w aw ag Z Z w2 := by
  have s1 := b1.size
  refine ⟨b1.trans (b2.mono b1.size), ?_⟩
  rcases o1 with h0 | ⟨g1, e1, hg1, k1⟩
  · exact Or.inl h0
  · rcases o2 with h0 | ⟨g2, e2, hg2, k2⟩
    · exact Or.inl h0
    · have l1 := k1.lt
      exact Or.inr ⟨g1, g2, e1, e2, by omega, by omega, k1.below b2, k2⟩
theorem below_drewN (W : World) (n : Nat) : Below W.heap.size W (W.drewN n) := K0.below_drewN (Below.refl _ _) n
theorem eq_L (hn : Z.length ≤ 1048576) (h : L w aw ag Z Z W) :
    Calls Try.prog 19 #[.slice ag Z.length cg, .slice aw Z.length cw] W fun e w' => e = .returned (.bool true) ∧ L w aw ag Z Z w' :=
  (I2.eqIntS ag aw cg cw Z W (by omega) h.rowg h.roww).mono fun _ _ ⟨he, n, hb⟩ => ⟨he, by rw [hb]; exact h.below (below_drewN _ _)⟩
theorem eq_M {ah : Option Addr} {ch : Nat} (hn : Z.length ≤ 1048576) (h : L w aw ag Z M W) (hr : P0.Row W ah Z) :
    Calls Try.prog 19 #[.slice ah Z.length ch, .slice aw Z.length cw] W fun e w' => e = .returned (.bool true) ∧ L w aw ag Z M w' :=
  (I2.eqIntS ah aw ch cw Z W (by omega) hr h.roww).mono fun _ _ ⟨he, n, hb⟩ => ⟨he, by rw [hb]; exact h.below (below_drewN _ _)⟩
theorem mark_L (hn : Z.length ≤ 1048576) (h : L w aw ag Z Z W) :
    Calls Try.prog 20 #[.slice ag Z.length cg, .int .i64 1] W fun e w' => e = .returned (.int .i64 ((1 + Z.length : Nat) : Int)) ∧ L w aw ag Z (M0.marks Z.length) w' := by
  rcases h.rows with h0 | ⟨g1, g2, e1, e2, h1, h2, k1, k2⟩
  · subst h0
    exact (M0.markNone ag cg W).mono fun _ _ ⟨he, hb⟩ => ⟨he, by rw [hb]; exact ⟨h.bel, Or.inl rfl⟩⟩
  · subst e2
    have hl : (ints Z).length = Z.length := by simp
    have hm := M0.markIntS g2 cg (ints Z) W (by omega) k2
    rw [hl] at hm
    exact hm.mono fun _ w' ⟨he, hk, hg⟩ => ⟨he, h.bel.trans (TW.below_gr hg h1 h.bel.size), Or.inr ⟨g1, g2, e1, rfl, h1, h2, M0.blk_grown k1 hg h2, hk⟩⟩
theorem held_L (hn : Z.length ≤ 1048576) (h : L w aw ag Z (M0.marks Z.length) W) :
    Calls Try.prog 21 #[.slice ag Z.length cg, .int .i64 1] W fun e w' => e = .returned (.int .i64 ((1 + Z.length : Nat) : Int)) ∧ L w aw ag Z (M0.marks Z.length) w' := by
  rcases h.rows with h0 | ⟨g1, g2, e1, e2, h1, h2, k1, k2⟩
  · subst h0
    exact (M0.heldNone ag cg W).mono fun _ _ ⟨he, hb⟩ => ⟨he, by rw [hb]; exact h⟩
  · subst e2
    exact (M0.heldIntS g2 cg Z.length W hn k2).mono fun _ _ ⟨he, hb⟩ => ⟨he, by rw [hb]; exact h⟩
end Go.Proofs.Ytddlpejklpljoaa.US
