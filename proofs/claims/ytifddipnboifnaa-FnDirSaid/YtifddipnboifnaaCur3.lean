/- Contracts of spec.l01Bytes, l01At and l01New: what they answer lies in its bounds; the cursor stays one. -/
import Derived.Test.YtifddipnboifnaaCur2
namespace Go.Proofs.Ytifddipnboifnaa.C1
open Go.ChangeShapes Go.WideShapes Go.ChangeAt Go.RowKit C0
set_option linter.unusedVariables false

theorem info8 : (Try.prog.info? 5).map (fun i => (i.zero, i.size, i.bytes)) = some (some (.int .u8 0), 1, 1) := by kernel_rfl

/-- Bytes as cells. -/
abbrev bcells (l : List UInt8) : List Value := l.map fun b => Value.int .u8 (b.toNat : Int)

theorem one_byte (x : Int) : ∀ u ∈ [Value.int .u8 x], u.oneCell' = true := by
  intro u h
  simp at h
  subst h
  rfl

theorem holds_of_owns {w : World} {base : Nat} {e : TypeId} {g n cap : Nat} {l : List UInt8} (h : w.ownsRow base e 1 (.slice (some ⟨g, 0, none⟩) n cap) n (bcells l)) : B0.Holds w g 0 l := by
  intro j hj
  have := h.cells (g := g) rfl j (.int .u8 (l[j].toNat : Int)) (by simp [hj])
  rwa [B0.add_off] at this

set_option maxHeartbeats 2000000 in
theorem bytes_any {w0 w : World} {c : Nat} {a : Option Addr} {len cap : Nat} (hcode : Given w0 a len) (h : St w0 w c a len cap) (hlen : len ≤ 1048576) (n : Nat) (h1 : n ≤ 1048576) :
    Calls Try.prog 100 #[.pointer (some ⟨c, 0, none⟩), .int .i64 (n : Int)] w fun e w' => (∃ s : ByteArray, s.size = n ∧ e = .returned (.string s)) ∧ St w0 w' c a len cap := by
  obtain ⟨i0, hi, hz0, hz1, hz2⟩ := info_parts info8
  have hcl := h.cur.lt
  have hn0 := h.new
  go_enter Try.func100, Try.ntmps100
  go_wp2
  go_loopw [5, 6] (fun v i w' => ∃ (k : Nat) (l : List UInt8) (g cp : Nat), k ≤ n ∧ l.length = k ∧ i = .int .i64 k ∧ v = .slice (some ⟨g, 0, none⟩) k cp ∧ w.heap.size ≤ w'.heap.size ∧ w'.ownsRow w.heap.size 5 1 (.slice (some ⟨g, 0, none⟩) k cp) k (bcells l) ∧ St w0 w' c a len cap) (fun _ i _ => n - (intOf i).toNat)
  case atStart => exact ⟨0, [], _, _, Nat.zero_le _, rfl, rfl, rfl, by simp, World.ownsRow_made w #[] 0 (Nat.le_refl _) (Nat.zero_le _) rfl, h.below ((Below.refl _ _).alloc (Nat.le_refl _) _)⟩
  case round =>
    obtain ⟨k, l, g, cp, hk, hl, rfl, rfl, hB, hown, hst⟩ := hrel
    have hg : w.heap.size ≤ g := (hown.lt g rfl).1
    by_cases hlt : k < n
    · have hlt' : (k : Int) < (n : Int) := by omega
      go_wp2_with (first
        | (go_at_call 72; refine (below_any hcode hst hlen 256 (by omega) (by omega)).mono ?_; rintro e w1 ⟨⟨x, x0, x1, rfl⟩, s1, g1⟩; have hown1 := hown.kept g1 (Or.inr (by simp [Value.ownBlock]; omega)); have hB1 := Nat.le_trans hB g1.size)
        | (at_builtin; refine wpList_append_lies _ rfl (.tmp 13) (.tmp 17) 22 rfl w.heap.size 5 i0 (.int .u8 0) 1 1 Try.underlying22 hi hz0 hz1 hz2 rfl (by omega) _ _ _ (by rfl) (hown1.alloc _) ⟨w1.heap.size, 0, none⟩ 1 1 [.int .u8 x] (by rfl) rfl (World.news_of_block (heap_alloc_new w1 _)) (one_byte _) (by omega) (by unfold maxLen; omega) (by omega) (by simp; omega) _ rfl ?_; intro g2 cap2 w2 hown2 hgrow hat hlt2))
      go_roundw
      case rel =>
        refine ⟨k + 1, l ++ [UInt8.ofNat x.toNat], g2, cap2, by omega, by simp [hl], by go_num, rfl, ?_, ?_, ?_⟩
        · exact Nat.le_trans (by simp; omega) hgrow.size
        · have e : bcells (l ++ [UInt8.ofNat x.toNat]) = bcells l ++ [.int .u8 x] := by
            have : x.toNat < 256 := by omega
            simp [Nat.mod_eq_of_lt this]
            omega
          rw [e]
          exact hown2
        · exact (s1.below ((Below.refl _ _).alloc (Nat.le_refl _) _)).grown (g := g) hgrow (by omega) (by omega)
      case measure => simp [intOf]; omega
    · obtain rfl : k = n := by omega
      have hcv := B0.conv_back (P := Try.prog) wr 22 9 5 g 0 cp l Try.underlying22 Try.underlying5 Try.underlying9 (holds_of_owns hown) k hl.symm
      go_wp2
      go_ret
      exact ⟨⟨⟨l.toArray⟩, by show l.toArray.size = _; simp [hl], rfl⟩, hst⟩

theorem ints4 : ∀ j (hj : j < (#[Value.int .i64 (-1), Value.int .i64 9223372036854775807, Value.int .i64 (-9223372036854775808), Value.int .i64 100] : Array Value).size), IsInt (#[Value.int .i64 (-1), Value.int .i64 9223372036854775807, Value.int .i64 (-9223372036854775808), Value.int .i64 100] : Array Value)[j] := by
  intro j hj
  match j, hj with
  | 0, _ => exact ⟨_, by decide, rfl⟩
  | 1, _ => exact ⟨_, by decide, rfl⟩
  | 2, _ => exact ⟨_, by decide, rfl⟩
  | 3, _ => exact ⟨_, by decide, rfl⟩

end Go.Proofs.Ytifddipnboifnaa.C1
