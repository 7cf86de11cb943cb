/- A fresh memory; contracts of spec.Format and impl.Format, as the given laws call them. -/
import Derived.Test.YtacalabjclclhaaRec2
import Derived.Test.YtacalabjclclhaaRecAt1
namespace Go.Proofs.Ytacalabjclclhaa.F4
open Go.ChangeShapes Go.WideShapes Go.ChangeAt Go.RowKit
set_option linter.unusedVariables false
set_option linter.unusedSimpArgs false
set_option maxRecDepth 10000
open I0 (val vals)

theorem laid_size (s : ByteArray) (i : Int) (t : ByteArray) : (B5.laid s i t).size = s.size := by
  unfold B5.laid
  split
  · rename_i h
    obtain ⟨h0, h1, h2⟩ := B2.lies_true h
    rw [ByteArray.size_append, ByteArray.size_append, ByteArray.size_extract, ByteArray.size_extract]
    omega
  · rfl

def head : ByteArray := ⟨#[84, 78, 82, 49]⟩
def page0 : ByteArray := B5.laid (B4.zeros 768) 0 head
def img (o : Int) : ByteArray := B5.laid page0 (L1.recAt 0) (R0.putI 2 o 0 [])
/-- A memory with a directory without entries for inode 0, of that owner. -/
def fmt (o : Int) : ByteArray := if I0.ok 2 o 0 [] then img o else ⟨#[]⟩

theorem zeros_le : (B4.zeros 768).size ≤ 281474976710656 := by
  rw [B4.zeros, if_pos (by decide), B4.nulls_size]
  decide
theorem head_le : head.size ≤ 281474976710656 := show 4 ≤ 281474976710656 by omega

/-- The text that the program has is the head. -/
theorem is_head {t : ByteArray} (ht : t.data.toList.map UInt8.toNat = [84, 78, 82, 49]) : t = head := by
  apply ByteArray.ext
  apply Array.toList_inj.1
  exact (List.map_inj_right (fun _ _ h => UInt8.toNat.inj h)).1 (ht.trans rfl)

theorem page0_le : page0.size ≤ 281474976710656 := by rw [page0, laid_size]; exact zeros_le
theorem putI_le (o : Int) : (R0.putI 2 o 0 []).size ≤ 281474976710656 := Nat.le_trans (R0.putI_size _ _ _ _) (by decide)

structure Fm (w : World) (o : Int) (W : World) : Prop where
  blk : K0.Blk w.heap.size (vals 2 o 0 none 0 0) W
  bel : Below w.heap.size w W

theorem Fm.below {w W W' : World} {o : Int} (h : Fm w o W) (hb : Below W.heap.size W W') : Fm w o W' := ⟨h.blk.below hb, h.bel.trans (hb.mono h.bel.size)⟩
theorem Fm.drewN {w W : World} {o : Int} (h : Fm w o W) (n : Nat) : Fm w o (W.drewN n) := ⟨h.blk.drewN n, K0.below_drewN h.bel n⟩

theorem Fm.four {w W : World} {o : Int} (h : Fm w o W) : W.cell? ⟨w.heap.size, 0, none⟩ = some (.int .i64 2) ∧ W.cell? ⟨w.heap.size, 1, none⟩ = some (.int .i64 o) ∧ W.cell? ⟨w.heap.size, 2, none⟩ = some (.int .i64 0) ∧ W.cell? ⟨w.heap.size, 3, none⟩ = some (.slice none 0 0) := ⟨h.blk.c0, h.blk.c1, h.blk.c2, h.blk.c3⟩

section
variable {w W : World} {o : Int}
theorem cOk {r : Bool} (hr : I0.ok 2 o 0 [] = r) (h : Fm w o W) : Calls Try.prog 33 #[val 2 o 0 none 0 0] W fun e w' => e = .returned (.bool r) ∧ Fm w o w' :=
  (I1.spec_InodeOk 2 o 0 none 0 [] W (by simp) (by simp) (Or.inl rfl)).mono fun _ _ ⟨he, hb⟩ => ⟨by rw [he, hr], h.below hb⟩
theorem cPut {p : ByteArray} (hp : R0.putI 2 o 0 [] = p) (h : Fm w o W) : Calls Try.prog 29 #[val 2 o 0 none 0 0] W fun e w' => e = .returned (.string p) ∧ Fm w o w' :=
  (R2.spec_PutInode 2 o 0 none 0 [] W (by simp) (by simp) (Or.inl rfl)).mono fun _ _ ⟨he, hb⟩ => ⟨by rw [he, hp]; done, h.below hb⟩
theorem cZeros {z : ByteArray} (hz : B4.zeros 768 = z) (h : Fm w o W) : Calls Try.prog 101 #[.int .i64 768] W fun e w' => e = .returned (.string z) ∧ Fm w o w' :=
  (B4.spec_Zeros 768 W).mono fun _ _ ⟨he, hb⟩ => ⟨by rw [he, hz], by rw [hb]; exact h⟩
theorem cRec {x : Int} (hx : L1.recAt 0 = x) (h : Fm w o W) : Calls Try.prog 37 #[.int .i64 0] W fun e w' => e = .returned (.int .i64 x) ∧ Fm w o w' :=
  (L1.spec_RecAt 0 W).mono fun _ _ ⟨he, hb⟩ => ⟨by rw [he, hx], by rw [hb]; exact h⟩
theorem cHead {z t g : ByteArray} (ht : t.data.toList.map UInt8.toNat = [84, 78, 82, 49]) (hs : z.size ≤ 281474976710656) (hu : B5.laid z 0 head = g) (h : Fm w o W) : Calls Try.prog 116 #[.string z, .int .i64 0, .string t] W fun e w' => e = .returned (.string g) ∧ Fm w o w' := by
  obtain rfl := is_head ht
  exact (B5.spec_With z 0 head W hs head_le).mono fun _ _ ⟨he, n, hb⟩ => ⟨by rw [he, hu], by rw [hb]; exact h.drewN n⟩
theorem iHead {z t g : ByteArray} (ht : t.data.toList.map UInt8.toNat = [84, 78, 82, 49]) (hs : z.size ≤ 281474976710656) (hu : B5.laid z 0 head = g) (h : Below w.heap.size w W) : Calls Try.prog 94 #[.string z, .int .i64 0, .string t] W fun e w' => e = .returned (.string g) ∧ Below w.heap.size w w' := by
  obtain rfl := is_head ht
  exact (B5.impl_With z 0 head W hs head_le).mono fun _ _ ⟨he, hb⟩ => ⟨by rw [he, hu], h.trans (hb.mono h.size)⟩
theorem cWith {s t u : ByteArray} {i : Int} (hs : s.size ≤ 281474976710656) (ht : t.size ≤ 281474976710656) (hu : B5.laid s i t = u) (h : Fm w o W) : Calls Try.prog 116 #[.string s, .int .i64 i, .string t] W fun e w' => e = .returned (.string u) ∧ Fm w o w' :=
  (B5.spec_With s i t W hs ht).mono fun _ _ ⟨he, n, hb⟩ => ⟨by rw [he, hu], by rw [hb]; exact h.drewN n⟩
end

end Go.Proofs.Ytacalabjclclhaa.F4
