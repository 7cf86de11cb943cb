/- The contract of spec.EventText, whatever the kind. -/
import Derived.Test.YtjajclifjojblaaDoorEv6
namespace Go.Proofs.YtjajclifjojblaaDoor.ET
open Go.ChangeShapes Go.WideShapes Go.ChangeAt Go.RowKit
set_option linter.unusedVariables false
set_option linter.unusedSimpArgs false
set_option maxRecDepth 10000

open EV (Ev val vals Fit hx dt glue text parts words)
open EW (EB eb_new eo)
open EX (Tabs)
variable {w W W' : World} {d : Ev} {a : Option Addr} {c : Nat}

theorem spec_EventText (hF : Fit d) (ht : d.tx.size ≤ 1048576) (hl : d.kp.length ≤ 1048576) (hR : P0.Row w a d.kp) :
    Calls Tryd.prog 17 #[val d a c] w fun e w' => e = .returned (.string (text d)) ∧ Below w.heap.size w w' := by
  by_cases h : 0 ≤ d.kd ∧ d.kd ≤ 9
  · have hk : d.kd = 0 ∨ d.kd = 1 ∨ d.kd = 2 ∨ d.kd = 3 ∨ d.kd = 4 ∨ d.kd = 5 ∨ d.kd = 6 ∨ d.kd = 7 ∨ d.kd = 8 ∨ d.kd = 9 := by omega
    rw [text, if_pos h]
    rcases hk with hk | hk | hk | hk | hk | hk | hk | hk | hk | hk
    · have e1 : parts d = [dt d.cl, dt d.ino, dt d.at_] := by simp [parts, hk]
      have e2 : words.getD d.kd.toNat ⟨#[]⟩ = (⟨#[108, 101, 110, 100]⟩ : ByteArray) := by rw [hk]; rfl
      rw [e1, e2]
      exact EZ.text0 hk hF ht
    · have e1 : parts d = [dt d.cl, dt d.at_, hx d.tx] := by simp [parts, hk]
      have e2 : words.getD d.kd.toNat ⟨#[]⟩ = (⟨#[116, 111, 117, 99, 104]⟩ : ByteArray) := by rw [hk]; rfl
      rw [e1, e2]
      exact EZ.text1 hk hF ht
    · have e1 : parts d = [dt d.cl, dt d.at_, dt d.tx.size] := by simp [parts, hk]
      have e2 : words.getD d.kd.toNat ⟨#[]⟩ = (⟨#[108, 97, 115, 116]⟩ : ByteArray) := by rw [hk]; rfl
      rw [e1, e2]
      exact EZ.text2 hk hF ht
    · have e1 : parts d = [dt d.cl, dt d.ino] := by simp [parts, hk]
      have e2 : words.getD d.kd.toNat ⟨#[]⟩ = (⟨#[98, 97, 99, 107]⟩ : ByteArray) := by rw [hk]; rfl
      rw [e1, e2]
      exact EZ.text3 hk hF ht
    · have e1 : parts d = [] := by simp [parts, hk]
      have e2 : words.getD d.kd.toNat ⟨#[]⟩ = (⟨#[116, 105, 99, 107]⟩ : ByteArray) := by rw [hk]; rfl
      rw [e1, e2]
      exact EZ.text4 hk hF ht
    · have e1 : parts d = d.kp.map dt := by simp [parts, hk]
      have e2 : words.getD d.kd.toNat ⟨#[]⟩ = (⟨#[112, 111, 119, 101, 114]⟩ : ByteArray) := by rw [hk]; rfl
      rw [e1, e2]
      exact EZ.text5 hk hF ht hl hR
    · have e1 : parts d = [dt d.cl, dt d.ino, hx d.tx] := by simp [parts, hk]
      have e2 : words.getD d.kd.toNat ⟨#[]⟩ = (⟨#[102, 105, 108, 101]⟩ : ByteArray) := by rw [hk]; rfl
      rw [e1, e2]
      exact EZ.text6 hk hF ht
    · have e1 : parts d = [dt d.cl, dt d.ino, dt d.at_, d.tx] := by simp [parts, hk]
      have e2 : words.getD d.kd.toNat ⟨#[]⟩ = (⟨#[109, 97, 107, 101]⟩ : ByteArray) := by rw [hk]; rfl
      rw [e1, e2]
      exact EZ.text7 hk hF ht
    · have e1 : parts d = [dt d.cl, dt d.ino, d.tx] := by simp [parts, hk]
      have e2 : words.getD d.kd.toNat ⟨#[]⟩ = (⟨#[114, 101, 109, 111, 118, 101]⟩ : ByteArray) := by rw [hk]; rfl
      rw [e1, e2]
      exact EZ.text8 hk hF ht
    · have e1 : parts d = [dt d.cl, dt d.ino, dt d.at_, hx d.tx] := by simp [parts, hk]
      have e2 : words.getD d.kd.toNat ⟨#[]⟩ = (⟨#[102, 105, 108, 108]⟩ : ByteArray) := by rw [hk]; rfl
      rw [e1, e2]
      exact EZ.text9 hk hF ht
  · rw [text, if_neg h]
    exact EZ.textN h hF
end Go.Proofs.YtjajclifjojblaaDoor.ET
