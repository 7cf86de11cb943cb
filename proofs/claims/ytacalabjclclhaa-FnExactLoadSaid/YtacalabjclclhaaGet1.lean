/- Contracts of impl.readPages, impl.readRecord, impl.isFree, impl.inodeOf and impl.GetInode, as the given laws call them. -/
import Derived.Test.YtacalabjclclhaaGet0
import Derived.Test.YtacalabjclclhaaIB0
import Derived.Test.YtacalabjclclhaaRec1
namespace Go.Proofs.Ytacalabjclclhaa.G1
open Go.ChangeShapes Go.WideShapes Go.ChangeAt Go.RowKit
set_option linter.unusedVariables false
set_option linter.unusedSimpArgs false
set_option maxRecDepth 10000

open I0 (val vals)

set_option maxHeartbeats 1000000 in
theorem readPages (s : ByteArray) (w : World) (h16 : s.size = 16) :
    Calls Try.prog 144 #[.string s, .int .i64 (P0.need (B6.pairAt s 2))] w fun e w' => ∃ a c, e = .returned (.slice a (G0.pgs s (G0.cnt s)).length c) ∧ J0.IBuf w.heap.size w' a (G0.pgs s (G0.cnt s)).length c (G0.pgs s (G0.cnt s)) ∧ Below w.heap.size w w' := by
  rw [G0.pgs_length]
  have hm : s.size ≤ maxLen := by unfold maxLen; omega
  have hz : (s.size : Int) = 16 := by omega
  have b0 := J0.ibuf_made w (Nat.le_refl _)
  have l0 := K0.below_new w (.cells #[] 3)
  have hcl := G0.cnt_le s
  have hct := G0.cnt_lt s
  obtain ⟨N, hN⟩ : ∃ N, P0.need (B6.pairAt s 2) = N := ⟨_, rfl⟩
  rw [hN] at hct ⊢
  obtain ⟨C, hC⟩ : ∃ C, G0.cnt s = C := ⟨_, rfl⟩
  rw [hC] at hct hcl ⊢
  clear hN hC
  go_enter Try.func144, Try.ntmps144
  go_wp2
  go_loopw [5, 6] (fun v i w' => ∃ (k c : Nat) (a : Option Addr), k ≤ C ∧ i = .int .i64 (4 + (k : Int)) ∧ v = .slice a k c ∧ J0.IBuf w.heap.size w' a k c (G0.pgs s k) ∧ Below w.heap.size w w') (fun _ i _ => 16 - (intOf i).toNat)
  case atStart => exact ⟨0, 0, _, Nat.zero_le _, rfl, rfl, b0, l0⟩
  case round =>
    obtain ⟨k, c, a, hk, rfl, rfl, hbuf, hbel⟩ := hrel
    clear b0 l0
    by_cases hlt : k < C
    · obtain ⟨h1, h2⟩ := (hct k).1 hlt
      have e1 : 4 + (k : Int) < 16 := by omega
      have HS : Hid (G0.pgs s k ++ [B1.byteAt s (4 + (k : Int))] = G0.pgs s (k + 1)) := G0.pgs_succ s k
      go_wp2_with (first
        | (go_at_call 96; refine (B1.impl_ByteAt _ _ _ hm).mono ?_; rintro e w' ⟨rfl, rfl⟩)
        | (at_builtin; refine J0.append_int rfl (.tmp 20) (.tmp 24) rfl hbuf _ (by rfl) (by rfl) (by omega) hbel.size ?_; intro g1 cap1 w1 hbuf1 bel1))
      go_roundw
      case rel => exact ⟨k + 1, cap1, _, by omega, by go_num, rfl, by rw [← HS.out]; exact hbuf1, hbel.trans bel1⟩
      case measure => simp [intOf]; omega
    · obtain rfl : k = C := by omega
      by_cases h12 : k < 12
      · have e1 : 4 + (k : Int) < 16 := by omega
        have e2 : ¬ (k : Int) < N := fun h => hlt ((hct k).2 ⟨h, h12⟩)
        have e3 : decide ((k : Int) < N) = false := by simpa using e2
        go_wp2
        go_ret
        exact ⟨a, c, rfl, hbuf, hbel⟩
      · have e1 : ¬ 4 + (k : Int) < 16 := by omega
        have e3 : decide (4 + (k : Int) < 16) = false := by simpa using e1
        go_wp2
        go_ret
        exact ⟨a, c, rfl, hbuf, hbel⟩

theorem as00 (v : Value) (w : World) : (Instr.typeAssert (.iface 162 v) 103 162 true).run Try.prog w = .ok (.tuple #[v, .bool true]) w := by kernel_rfl
theorem as10 (v : Value) (w : World) : (Instr.typeAssert (.iface 157 v) 103 162 true).run Try.prog w = .ok (.tuple #[val 0 0 0 none 0 0, .bool false]) w := by kernel_rfl
theorem as20 (v : Value) (w : World) : (Instr.typeAssert (.iface 159 v) 103 162 true).run Try.prog w = .ok (.tuple #[val 0 0 0 none 0 0, .bool false]) w := by kernel_rfl
theorem as11 (v : Value) (w : World) : (Instr.typeAssert (.iface 157 v) 103 157 true).run Try.prog w = .ok (.tuple #[v, .bool true]) w := by kernel_rfl
theorem as21 (v : Value) (w : World) : (Instr.typeAssert (.iface 159 v) 103 157 true).run Try.prog w = .ok (.tuple #[val 0 0 0 none 0 0, .bool false]) w := by kernel_rfl
theorem as22 (v : Value) (w : World) : (Instr.typeAssert (.iface 159 v) 103 159 false).run Try.prog w = .ok v w := by kernel_rfl

theorem isFree0 (v : Value) (k o s : Int) (a : Option Addr) (n c : Nat) (hv : v = val k o s a n c) (w : World) :
    Calls Try.prog 110 #[.iface 162 v] w fun e w' => e = .returned (.bool true) ∧ Below w.heap.size w w' := by
  have ha := as00
  subst hv
  go_enter Try.func110, Try.ntmps110
  go_wp2
  go_ret
  exact ⟨rfl, K0.below_new _ _⟩

theorem isFree1 (v : Value) (k o s : Int) (a : Option Addr) (n c : Nat) (hv : v = val k o s a n c) (w : World) :
    Calls Try.prog 110 #[.iface 157 v] w fun e w' => e = .returned (.bool false) ∧ Below w.heap.size w w' := by
  have ha := as10
  subst hv
  go_enter Try.func110, Try.ntmps110
  go_wp2
  go_ret
  exact ⟨rfl, K0.below_new _ _⟩

theorem isFree2 (v : Value) (k o s : Int) (a : Option Addr) (n c : Nat) (hv : v = val k o s a n c) (w : World) :
    Calls Try.prog 110 #[.iface 159 v] w fun e w' => e = .returned (.bool false) ∧ Below w.heap.size w w' := by
  have ha := as20
  subst hv
  go_enter Try.func110, Try.ntmps110
  go_wp2
  go_ret
  exact ⟨rfl, K0.below_new _ _⟩

theorem inodeOf0 (k o s : Int) (a : Option Addr) (n c : Nat) (w : World) :
    Calls Try.prog 89 #[.iface 162 (val k o s a n c)] w fun e w' => e = .returned (val 0 0 0 none 0 0) ∧ Below w.heap.size w w' := by
  have n0 := K0.blk_new (vals 0 0 0 none 0 0) w 26
  have l0 := K0.below_new w (.cells #[.int .i64 0, .int .i64 0, .int .i64 0, .slice none 0 0] 26)
  go_enter Try.func89, Try.ntmps89
  go_wp2_with (go_at_call 110; refine (isFree0 _ k o s a n c rfl _).mono ?_; rintro e w1 ⟨rfl, b1⟩; have n1 := n0.below b1; have l1 := l0.trans (b1.mono l0.size); have c0 := n1.c0; have c1 := n1.c1; have c2 := n1.c2; have c3 := n1.c3; have f0 := n1.f0; have f1 := n1.f1; have f2 := n1.f2; have f3 := n1.f3)
  have q := n1.put4 (.int .i64 0) (.int .i64 0) (.int .i64 0) (.slice none 0 0)
  refine bodyPost_ret (v := val 0 0 0 none 0 0) (by simp [results, Try.results89, go_sem, q.c0, q.c1, q.c2, q.c3]) rfl ⟨rfl, ?_⟩
  exact (((l1.setCell (p := ⟨w.heap.size, 0, none⟩) (Nat.le_refl _) _).setCell (p := ⟨w.heap.size, 1, none⟩) (Nat.le_refl _) _).setCell (p := ⟨w.heap.size, 2, none⟩) (Nat.le_refl _) _).setCell (p := ⟨w.heap.size, 3, none⟩) (Nat.le_refl _) _

set_option maxHeartbeats 1000000 in
theorem inodeOf1 (k o s : Int) (a : Option Addr) (n c : Nat) (w : World) :
    Calls Try.prog 89 #[.iface 157 (val k o s a n c)] w fun e w' => e = .returned (val k o s a n c) ∧ Below w.heap.size w w' := by
  have ha := as11
  have n0 := K0.blk_new (vals 0 0 0 none 0 0) w 26
  have l0 := K0.below_new w (.cells #[.int .i64 0, .int .i64 0, .int .i64 0, .slice none 0 0] 26)
  go_enter Try.func89, Try.ntmps89
  go_wp2_with (go_at_call 110; refine (isFree1 _ k o s a n c rfl _).mono ?_; rintro e w1 ⟨rfl, b1⟩; have n1 := (n0.below b1).alloc (.cells #[.int .i64 k, .int .i64 o, .int .i64 s, .slice a n c] 157); have l1 := (l0.trans (b1.mono l0.size)).alloc (Nat.le_trans l0.size b1.size) (.cells #[.int .i64 k, .int .i64 o, .int .i64 s, .slice a n c] 157); have c0 := n1.c0; have c1 := n1.c1; have c2 := n1.c2; have c3 := n1.c3; have f0 := n1.f0; have f1 := n1.f1; have f2 := n1.f2; have f3 := n1.f3)
  have q := n1.put4 (.int .i64 k) (.int .i64 o) (.int .i64 s) (.slice a n c)
  refine bodyPost_ret (v := val k o s a n c) (by simp [results, Try.results89, go_sem, q.c0, q.c1, q.c2, q.c3]) rfl ⟨rfl, ?_⟩
  exact (((l1.setCell (p := ⟨w.heap.size, 0, none⟩) (Nat.le_refl _) _).setCell (p := ⟨w.heap.size, 1, none⟩) (Nat.le_refl _) _).setCell (p := ⟨w.heap.size, 2, none⟩) (Nat.le_refl _) _).setCell (p := ⟨w.heap.size, 3, none⟩) (Nat.le_refl _) _

set_option maxHeartbeats 1000000 in
theorem inodeOf2 (k o s : Int) (a : Option Addr) (n c : Nat) (w : World) :
    Calls Try.prog 89 #[.iface 159 (val k o s a n c)] w fun e w' => e = .returned (val k o s a n c) ∧ Below w.heap.size w w' := by
  have ha := as21
  have hb := as22
  have n0 := K0.blk_new (vals 0 0 0 none 0 0) w 26
  have l0 := K0.below_new w (.cells #[.int .i64 0, .int .i64 0, .int .i64 0, .slice none 0 0] 26)
  go_enter Try.func89, Try.ntmps89
  go_wp2_with (go_at_call 110; refine (isFree2 _ k o s a n c rfl _).mono ?_; rintro e w1 ⟨rfl, b1⟩; have n1 := (n0.below b1).alloc (.cells #[.int .i64 0, .int .i64 0, .int .i64 0, .slice none 0 0] 157); have l1 := (l0.trans (b1.mono l0.size)).alloc (Nat.le_trans l0.size b1.size) (.cells #[.int .i64 0, .int .i64 0, .int .i64 0, .slice none 0 0] 157); have c0 := n1.c0; have c1 := n1.c1; have c2 := n1.c2; have c3 := n1.c3; have f0 := n1.f0; have f1 := n1.f1; have f2 := n1.f2; have f3 := n1.f3)
  have q := n1.put4 (.int .i64 k) (.int .i64 o) (.int .i64 s) (.slice a n c)
  refine bodyPost_ret (v := val k o s a n c) (by simp [results, Try.results89, go_sem, q.c0, q.c1, q.c2, q.c3]) rfl ⟨rfl, ?_⟩
  exact (((l1.setCell (p := ⟨w.heap.size, 0, none⟩) (Nat.le_refl _) _).setCell (p := ⟨w.heap.size, 1, none⟩) (Nat.le_refl _) _).setCell (p := ⟨w.heap.size, 2, none⟩) (Nat.le_refl _) _).setCell (p := ⟨w.heap.size, 3, none⟩) (Nat.le_refl _) _
end Go.Proofs.Ytacalabjclclhaa.G1
