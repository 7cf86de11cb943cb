/- The contract of the program's DevOf; a device among a law's arguments, opened and shut. -/
import Derived.Test.YtkpcpffpiilcpaaDev2
import Derived.Lib.SmallJoins
import Derived.OpenShut
import Derived.ShutString
namespace Go.Proofs.Ytkpcpffpiilcpaa.D2
open Go.ChangeShapes Go.WideShapes Go.ChangeAt Go.RowKit Go.Joins
set_option linter.unusedVariables false

theorem impl_DevOf (s : ByteArray) (w : World) (hs : s.size ≤ 281474976710656) :
    Calls Try.prog 14 #[.string s] w fun e w' => e = .returned (devOf s) ∧ Below w.heap.size w w' := by
  have hm : s.size ≤ maxLen := by unfold maxLen; omega
  have hB : Below w.heap.size w (((w.alloc (.cells #[.string ⟨#[]⟩, .string ⟨#[]⟩] 25)).alloc (.cells #[.string s, .string s] 25)).alloc (.cells #[.string s, .string s] 25)) := (((Below.refl _ _).alloc (Nat.le_refl _) _).alloc (by simp) _).alloc (by simp; omega) _
  by_cases h : s.size = 768
  · have e : devOf s = .tuple #[.agg #[.string s, .string s], .bool true] := if_pos h
    have h' : D1.ok s s = true := D1.ok_mk h h
    rw [e]
    go_enter Try.func14, Try.ntmps14
    go_wp2_with (first
      | (go_at_call 20; refine (D1.impl_DevOk _ _ _ hm hm).mono ?_; rintro e w1 ⟨rfl, rfl⟩)
      | (go_at_call 39; refine (devCopy _ _ _ hs hs).mono ?_; rintro e w2 ⟨rfl, hb2⟩
         have d2 : w2.cell? ⟨w.heap.size, 0, none⟩ = some (.string ⟨#[]⟩) := (hb2.cell (p := ⟨w.heap.size, 0, none⟩) (by simp; omega)).trans (by simp [go_sem])
         have d3 : w2.cell? ⟨w.heap.size, 1, none⟩ = some (.string ⟨#[]⟩) := (hb2.cell (p := ⟨w.heap.size, 1, none⟩) (by simp; omega)).trans (by simp [go_sem])
         have d4 : w2.frozen? ⟨w.heap.size, 0, none⟩ = false := (hb2.frozen (p := ⟨w.heap.size, 0, none⟩) (by simp; omega)).trans (by simp [go_sem])
         have d5 : w2.frozen? ⟨w.heap.size, 1, none⟩ = false := (hb2.frozen (p := ⟨w.heap.size, 1, none⟩) (by simp; omega)).trans (by simp [go_sem])))
    have q := ret2 (a := s) (b := s) d2 d3
    refine bodyPost_ret (v := .tuple #[.agg #[.string s, .string s], .bool true]) (by simp [results, Try.results14, go_sem, q.1, q.2]) rfl ⟨rfl, ?_⟩
    exact ((hB.trans (hb2.mono hB.size)).setCell (p := ⟨w.heap.size, 0, none⟩) (Nat.le_refl _) _).setCell (p := ⟨w.heap.size, 1, none⟩) (Nat.le_refl _) _
  · have e : devOf s = .tuple #[.agg #[.string ⟨#[]⟩, .string ⟨#[]⟩], .bool false] := if_neg h
    have h' : D1.ok s s = false := by simp [D1.ok, h]
    rw [e]
    go_enter Try.func14, Try.ntmps14
    go_wp2_with (go_at_call 20; refine (D1.impl_DevOk _ _ _ hm hm).mono ?_; rintro e w1 ⟨rfl, rfl⟩)
    exact bodyPost_ret (v := .tuple #[.agg #[.string ⟨#[]⟩, .string ⟨#[]⟩], .bool false]) (by simp [results, Try.results14, go_sem]) rfl ⟨rfl, hB⟩
end Go.Proofs.Ytkpcpffpiilcpaa.D2
