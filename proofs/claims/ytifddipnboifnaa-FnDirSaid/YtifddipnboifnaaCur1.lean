/- The contract of spec.l01Byte: a number of 0 to 255; the cursor stays one. -/
import Derived.Test.YtifddipnboifnaaRows
import Derived.Test.YtifddipnboifnaaCur0
import Derived.ProofKit
import Derived.Handy
import Derived.Deep.QuietTactic
import Derived.BigQuiet
namespace Go.Proofs.Ytifddipnboifnaa.C1
open Go.ChangeShapes Go.WideShapes Go.ChangeAt Go.RowKit C0
set_option linter.unusedVariables false

theorem and255 (n : Int) : bits .and .i64 n 255 = n % 256 := by
  have h255 : (BitVec.ofInt 64 255).toNat = 2 ^ 8 - 1 := by decide
  have key : (BitVec.ofInt 64 n &&& BitVec.ofInt 64 255).toNat = (n % ((2 ^ 64 : Nat) : Int)).toNat % 2 ^ 8 := by
    rw [BitVec.toNat_and, BitVec.toNat_ofInt, h255, Nat.and_two_pow_sub_one_eq_mod]
  show IntKind.i64.wrap ((BitVec.ofInt 64 n &&& BitVec.ofInt 64 255).toNat : Nat) = n % 256
  rw [key, IntKind.wrap_i64]
  omega

set_option maxHeartbeats 2000000 in
theorem byte_any {w0 w : World} {c : Nat} {a : Option Addr} {len cap : Nat} (hcode : Given w0 a len) (h : St w0 w c a len cap) (hlen : len ≤ 1048576) :
    Calls Try.prog 107 #[.pointer (some ⟨c, 0, none⟩)] w fun e w' => (∃ x : Int, 0 ≤ x ∧ x < 256 ∧ e = .returned (.int .i64 x)) ∧ St w0 w' c a len cap ∧ w.grownBy w' (some c) := by
  obtain ⟨k, y, hk, c0, c1, c2⟩ := h.cur.cells
  have f1 := h.cur.free1
  have f2 := h.cur.free2
  have hlt := h.cur.lt
  have ha := and255
  by_cases hkl : k < len
  · obtain ⟨b, off, z, rfl, hb, z0, z1, hz⟩ := hcode k hkl
    have hne : b ≠ c := by have := h.new; omega
    have hz2 : ∀ v, (w.setCell ⟨c, 2, none⟩ v).cell? ⟨b, off + k, none⟩ = some (.int .u8 z) := fun v => by
      rw [World.cell?_setCell_other _ _ _ _ (fun e => hne (Addr.mk.inj e).1.symm), h.bel.cell (p := ⟨b, off + k, none⟩) hb]
      exact hz
    have e1 : (0 : Int) ≤ (k : Int) := by omega
    have e2 : (k : Int) < (len : Int) := by omega
    clear hz
    go_enter Try.func107, Try.ntmps107
    go_wp2
    go_quiet (fail)
    go_wp2
    go_quiet (fail)
    go_wp2
    go_quiet (fail)
    go_wp2
    go_ret
    exact ⟨⟨_, by omega, by omega, rfl⟩, ((h.set2 _).drewN _).set1 _ (k + 1) (by omega) (by omega), grown_set (grown_drewN (grown_set (grown_refl _ _) _) _) _⟩
  · go_enter Try.func107, Try.ntmps107
    go_wp2
    go_quiet (fail)
    go_wp2
    go_quiet (fail)
    go_wp2
    go_ret
    exact ⟨⟨_, by omega, by omega, rfl⟩, ((h.set2 _).drewN _).drewN _, grown_drewN (grown_drewN (grown_set (grown_refl _ _) _) _) _⟩
end Go.Proofs.Ytifddipnboifnaa.C1
