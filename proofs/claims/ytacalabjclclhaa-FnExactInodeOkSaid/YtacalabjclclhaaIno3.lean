/- Contracts as the exact laws over inodes use them: the law's own inode, boxed, is kept, and so is a copy of it. -/
import Derived.Test.YtacalabjclclhaaIno2
namespace Go.Proofs.Ytacalabjclclhaa.I3
open Go.ChangeShapes Go.WideShapes Go.ChangeAt Go.RowKit
set_option linter.unusedVariables false
set_option linter.unusedSimpArgs false
set_option maxRecDepth 10000

open I0 (val vals)
open I2 (ints)

/-- The law's inode in its box. -/
structure Arg (w : World) (k o s : Int) (a : Option Addr) (zs : List Int) (c : Nat) (W : World) : Prop where
  b : K0.Blk w.heap.size (vals k o s a zs.length c) W
  row : P0.Row W a zs
  bel : Below w.heap.size w W

variable {w W W' : World} {k o s : Int} {a : Option Addr} {zs : List Int} {c : Nat}

theorem Arg.below (h : Arg w k o s a zs c W) (hb : Below W.heap.size W W') : Arg w k o s a zs c W' := ⟨h.b.below hb, h.row.below hb, h.bel.trans (hb.mono (Nat.le_of_lt h.b.lt))⟩
theorem Arg.drew (h : Arg w k o s a zs c W) : Arg w k o s a zs c W.drew := ⟨h.b.drew, h.row, h.bel.drew⟩

/-- Beside it a copy of it, boxed. -/
structure Own (w : World) (k o s : Int) (a : Option Addr) (zs : List Int) (c g B : Nat) (W : World) : Prop where
  t : Arg w k o s a zs c W
  n : K0.Blk B (vals k o s (some ⟨g, 0, none⟩) zs.length zs.length) W
  row : K0.Blk g (ints zs) W

theorem Own.below {g B : Nat} (h : Own w k o s a zs c g B W) (hb : Below W.heap.size W W') : Own w k o s a zs c g B W' := ⟨h.t.below hb, h.n.below hb, h.row.below hb⟩
theorem Own.drew {g B : Nat} (h : Own w k o s a zs c g B W) : Own w k o s a zs c g B W.drew := ⟨h.t.drew, h.n.drew, h.row.drew⟩

theorem own_new {g : Nat} (h : Arg w k o s a zs c W) (hg : K0.Blk g (ints zs) W) : Own w k o s a zs c g W.heap.size (W.alloc (.cells #[.int .i64 k, .int .i64 o, .int .i64 s, .slice (some ⟨g, 0, none⟩) zs.length zs.length] 26)) :=
  ⟨h.below (K0.below_new _ _), K0.blk_new (vals k o s (some ⟨g, 0, none⟩) zs.length zs.length) W 26, hg.alloc _⟩

theorem szFit (hz : zs.length ≤ 1048576) (h : Arg w k o s a zs c W) :
    Calls Try.prog 48 #[val k o s a zs.length c, .int .i64 1048576] W fun e w' => e = .returned (.int .i64 (1048576 - zs.length)) ∧ Arg w k o s a zs c w' :=
  (I2.szInode k o s a c zs.length 1048576 W (by unfold maxLen; omega) (by decide) (by decide)).mono fun _ _ ⟨he, hb⟩ => ⟨by rw [he, I2.left, if_neg (by omega)], h.below hb⟩

theorem szBig (hs : zs.length ≤ maxLen) (hz : ¬ zs.length ≤ 1048576) (h : Arg w k o s a zs c W) :
    Calls Try.prog 48 #[val k o s a zs.length c, .int .i64 1048576] W fun e w' => e = .returned (.int .i64 (-1)) ∧ Arg w k o s a zs c w' :=
  (I2.szInode k o s a c zs.length 1048576 W hs (by decide) (by decide)).mono fun _ _ ⟨he, hb⟩ => ⟨by rw [he, I2.left, if_pos (by omega)], h.below hb⟩

theorem toFit (hz : zs.length ≤ 1048576) (h : Arg w k o s a zs c W) :
    Calls Try.prog 49 #[val k o s a zs.length c] W fun e w' => ∃ g, e = .returned (val k o s (some ⟨g, 0, none⟩) zs.length zs.length) ∧ W.heap.size ≤ g ∧ K0.Blk g (ints zs) w' ∧ Arg w k o s a zs c w' :=
  (I2.toInode k o s a c zs W hz h.row).mono fun _ _ ⟨g, he, hg, hk, hb⟩ => ⟨g, he, hg, hk, h.below hb⟩

theorem toOwn {g B : Nat} (hz : zs.length ≤ 1048576) (h : Own w k o s a zs c g B W) :
    Calls Try.prog 49 #[val k o s a zs.length c] W fun e w' => ∃ g', e = .returned (val k o s (some ⟨g', 0, none⟩) zs.length zs.length) ∧ K0.Blk g' (ints zs) w' ∧ Own w k o s a zs c g B w' :=
  (I2.toInode k o s a c zs W hz h.t.row).mono fun _ _ ⟨g', he, hg, hk, hb⟩ => ⟨g', he, hk, h.below hb⟩
end Go.Proofs.Ytacalabjclclhaa.I3
