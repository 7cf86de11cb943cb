/- Drawing: bytes, picks, and what else stays beside the cursor. -/
import Derived.Test.YtifddipnboifnaaDraw1
import Derived.Test.YtifddipnboifnaaBlk0
namespace Go.Proofs.Ytifddipnboifnaa.C1
open Go.ChangeShapes Go.WideShapes Go.ChangeAt Go.RowKit C0
set_option linter.unusedVariables false
set_option linter.unusedSimpArgs false
set_option maxRecDepth 10000

theorem grown_new {w W1 W2 : World} {c g : Nat} (h : w.grownBy W1 (some c)) (h' : W1.grownBy W2 (some g)) (hg : w.heap.size ≤ g) : w.grownBy W2 (some c) :=
  ⟨h'.os.trans h.os, h'.tape.trans h.tape, h'.output.trans h.output, Nat.le_trans h.size h'.size, fun k hk hr => by
    rw [h'.block k (Nat.lt_of_lt_of_le hk h.size) (fun e => by have := Option.some.inj e; omega)]
    exact h.block k hk hr⟩

theorem grown_of_below {w W : World} {c : Nat} (h : Below w.heap.size w W) : w.grownBy W (some c) := ⟨h.os, h.tape, h.output, h.size, fun k hk _ => h.block k hk⟩

theorem below_of_grown {w W : World} {c : Nat} (h : w.grownBy W (some c)) (hc : w.heap.size ≤ c) : Below w.heap.size w W :=
  ⟨h.os, h.tape, h.output, h.size, fun k hk => h.block k hk (fun e => by have := Option.some.inj e; omega)⟩

set_option maxHeartbeats 2000000 in
theorem bytes_grown {w0 w : World} {c : Nat} {a : Option Addr} {len cap : Nat} (hcode : Given w0 a len) (h : St w0 w c a len cap) (hlen : len ≤ 1048576) (n : Nat) (h1 : n ≤ 1048576) :
    Calls Try.prog 100 #[.pointer (some ⟨c, 0, none⟩), .int .i64 (n : Int)] w fun e w' => (∃ s : ByteArray, s.size = n ∧ e = .returned (.string s)) ∧ St w0 w' c a len cap ∧ w.grownBy w' (some c) := by
  obtain ⟨i0, hi, hz0, hz1, hz2⟩ := info_parts info8
  have hcl := h.cur.lt
  have hn0 := h.new
  go_enter Try.func100, Try.ntmps100
  go_wp2
  go_loopw [5, 6] (fun v i w' => ∃ (k : Nat) (l : List UInt8) (g cp : Nat), k ≤ n ∧ l.length = k ∧ i = .int .i64 k ∧ v = .slice (some ⟨g, 0, none⟩) k cp ∧ w.heap.size ≤ w'.heap.size ∧ w'.ownsRow w.heap.size 5 1 (.slice (some ⟨g, 0, none⟩) k cp) k (bcells l) ∧ St w0 w' c a len cap ∧ w.grownBy w' (some c)) (fun _ i _ => n - (intOf i).toNat)
  case atStart => exact ⟨0, [], _, _, Nat.zero_le _, rfl, rfl, rfl, by simp, World.ownsRow_made w #[] 0 (Nat.le_refl _) (Nat.zero_le _) rfl, h.below ((Below.refl _ _).alloc (Nat.le_refl _) _), grown_of_below ((Below.refl _ _).alloc (Nat.le_refl _) _)⟩
  case round =>
    obtain ⟨k, l, g, cp, hk, hl, rfl, rfl, hB, hown, hst, hgr⟩ := hrel
    have hg : w.heap.size ≤ g := (hown.lt g rfl).1
    by_cases hlt : k < n
    · have hlt' : (k : Int) < (n : Int) := by omega
      go_wp2_with (first
        | (go_at_call 72; refine (below_any hcode hst hlen 256 (by omega) (by omega)).mono ?_; rintro e w1 ⟨⟨x, x0, x1, rfl⟩, s1, g1⟩; have hown1 := hown.kept g1 (Or.inr (by simp [Value.ownBlock]; omega)); have hB1 := Nat.le_trans hB g1.size)
        | (at_builtin; refine wpList_append_lies _ rfl (.tmp 13) (.tmp 17) 22 rfl w.heap.size 5 i0 (.int .u8 0) 1 1 Try.underlying22 hi hz0 hz1 hz2 rfl (by omega) _ _ _ (by rfl) (hown1.alloc _) ⟨w1.heap.size, 0, none⟩ 1 1 [.int .u8 x] (by rfl) rfl (World.news_of_block (heap_alloc_new w1 _)) (one_byte _) (by omega) (by unfold maxLen; omega) (by omega) (by simp; omega) _ rfl ?_; intro g2 cap2 w2 hown2 hgrow hat hlt2))
      go_roundw
      case rel =>
        refine ⟨k + 1, l ++ [UInt8.ofNat x.toNat], g2, cap2, by omega, by simp [hl], by go_num, rfl, ?_, ?_, ?_, ?_⟩
        · exact Nat.le_trans (by simp; omega) hgrow.size
        · have e : bcells (l ++ [UInt8.ofNat x.toNat]) = bcells l ++ [.int .u8 x] := by
            have : x.toNat < 256 := by omega
            simp [Nat.mod_eq_of_lt this]
            omega
          rw [e]
          exact hown2
        · exact (s1.below ((Below.refl _ _).alloc (Nat.le_refl _) _)).grown (g := g) hgrow (by omega) (by omega)
        · exact grown_new (grown_below (grown_trans hgr g1) ((Below.refl _ _).alloc (Nat.le_refl _) _)) hgrow hg
      case measure => simp [intOf]; omega
    · obtain rfl : k = n := by omega
      have hcv := B0.conv_back (P := Try.prog) wr 22 9 5 g 0 cp l Try.underlying22 Try.underlying5 Try.underlying9 (holds_of_owns hown) k hl.symm
      go_wp2
      go_ret
      exact ⟨⟨⟨l.toArray⟩, by show l.toArray.size = _; simp [hl], rfl⟩, hst, hgr⟩

theorem st_other {w0 w : World} {c : Nat} {a : Option Addr} {len cap : Nat} (h : St w0 w c a len cap) {B j : Nat} (hne : B ≠ c) (hB : w0.heap.size ≤ B) (v : Value) : St w0 (w.setCell ⟨B, j, none⟩ v) c a len cap :=
  ⟨h.bel.setCell (p := ⟨B, j, none⟩) hB _, h.new, h.cur.of_block (by simpa using h.cur.lt) (Below.heap_setCell _ _ _ _ (Ne.symm hne))⟩

theorem blk_grown {B g : Nat} {vs : List Value} {w w' : World} (h : K0.Blk B vs w) (hg : w.grownBy w' (some g)) (hne : B ≠ g) : K0.Blk B vs w' := by
  have hb : w'.heap[B]? = w.heap[B]? := hg.block B h.lt (fun e => hne (Option.some.inj e))
  refine ⟨fun j hj => ?_, fun j hj => ?_, Nat.lt_of_lt_of_le h.lt hg.size⟩
  · rw [World.cell?_of_block (a := ⟨B, j, none⟩) hb]
    exact h.cell j hj
  · rw [World.frozen?_of_block (a := ⟨B, j, none⟩) hb]
    exact h.free j hj

theorem bytes_int {w0 w : World} {c : Nat} {a : Option Addr} {len cap : Nat} (hcode : Given w0 a len) (h : St w0 w c a len cap) (hlen : len ≤ 1048576) (n : Int) (h0 : 0 ≤ n) (h1 : n ≤ 1048576) :
    Calls Try.prog 100 #[.pointer (some ⟨c, 0, none⟩), .int .i64 n] w fun e w' => (∃ s : ByteArray, (s.size : Int) = n ∧ e = .returned (.string s)) ∧ St w0 w' c a len cap ∧ w.grownBy w' (some c) := by
  obtain ⟨m, rfl⟩ : ∃ m : Nat, n = (m : Int) := ⟨n.toNat, by omega⟩
  exact (bytes_grown hcode h hlen m (by omega)).mono fun e w' ⟨⟨s, hs, he⟩, h2⟩ => ⟨⟨s, by omega, he⟩, h2⟩

theorem wf_of (n : Int) (h0 : -9223372036854775808 ≤ n) (h1 : n ≤ 9223372036854775807) : (Lit.int .i64 n).wf = true := by
  simp [Lit.wf, IntKind.min, IntKind.max, IntKind.signed, IntKind.bits]
  omega

theorem wrap_of (n : Int) (h0 : -9223372036854775808 ≤ n) (h1 : n ≤ 9223372036854775807) : IntKind.i64.wrap n = n := by rw [IntKind.wrap_i64]; omega

theorem grown_setNew {w W : World} {c B j : Nat} {v : Value} (h : w.grownBy W (some c)) (hB : w.heap.size ≤ B) : w.grownBy (W.setCell ⟨B, j, none⟩ v) (some c) :=
  grown_new h (grown_set (grown_refl _ _) v) hB

theorem isInt {z : Int} (h0 : -9223372036854775808 ≤ z) (h1 : z ≤ 9223372036854775807) : IsInt (.int .i64 z) := ⟨z, wf_of z h0 h1, rfl⟩
theorem of_all {C : Array Value} {Q : Value → Prop} (h : ∀ v ∈ C.toList, Q v) : ∀ j (hj : j < C.size), Q C[j] := fun j hj => h _ (by simp)

/-- A text of no more than a hundred bytes. -/
def IsTxt (v : Value) : Prop := ∃ s : ByteArray, s.size ≤ 100 ∧ v = .string s

variable {a : Option Addr} {len cap : Nat}

theorem pickTxt {w0 w : World} {c l n cp : Nat} (hcode : Given w0 a len) (h : St w0 w c a len cap) (hlen : len ≤ 1048576) (hof : Of w l n IsTxt) (hne : l ≠ c) (h0 : 0 < n) (h1 : n ≤ 100) :
    Calls Try.prog 101 #[.pointer (some ⟨c, 0, none⟩), .slice (some ⟨l, 0, none⟩) n cp] w fun e w' => (∃ s : ByteArray, s.size ≤ 100 ∧ e = .returned (.string s)) ∧ St w0 w' c a len cap ∧ w.grownBy w' (some c) := by
  go_enter Try.func101, Try.ntmps101
  go_wp2_with (go_at_call 72; refine (below_any hcode h hlen (n : Int) (by omega) (by omega)).mono ?_; rintro e w1 ⟨⟨x, x0, x1, rfl⟩, s1, g1⟩; obtain ⟨j, rfl⟩ : ∃ j : Nat, x = (j : Int) := ⟨x.toNat, by omega⟩; obtain ⟨v, ⟨z, wz, rfl⟩, hc⟩ := (hof.grown g1 hne).cell j (by omega))
  go_ret
  exact ⟨⟨z, wz, rfl⟩, s1, g1⟩

/-- A pick out of texts, or numbers, that were laid just now. -/
theorem pickTxtNew {w0 W : World} {c : Nat} {C : Array Value} {cp : Nat} {T : TypeId} (hcode : Given w0 a len) (h : St w0 W c a len cap) (hlen : len ≤ 1048576) (hC : ∀ v ∈ C.toList, IsTxt v) (h0 : 0 < C.size) (h1 : C.size ≤ 100) :
    Calls Try.prog 101 #[.pointer (some ⟨c, 0, none⟩), .slice (some ⟨W.heap.size, 0, none⟩) C.size cp] (W.alloc (.cells C T)) fun e w' => (∃ s : ByteArray, s.size ≤ 100 ∧ e = .returned (.string s)) ∧ St w0 w' c a len cap ∧ (W.alloc (.cells C T)).grownBy w' (some c) :=
  pickTxt hcode (h.below (K0.below_new _ _)) hlen (Of.new W C T IsTxt (of_all hC)) (by have := h.cur.lt; omega) h0 h1

theorem pickNew {w0 W : World} {c : Nat} {C : Array Value} {cp : Nat} (hcode : Given w0 a len) (h : St w0 W c a len cap) (hlen : len ≤ 1048576) (hC : ∀ v ∈ C.toList, IsInt v) (h0 : 0 < C.size) (h1 : C.size ≤ 100) :
    Calls Try.prog 98 #[.pointer (some ⟨c, 0, none⟩), .slice (some ⟨W.heap.size, 0, none⟩) C.size cp] (W.alloc (.cells C 3)) fun e w' => (∃ z : Int, (Lit.int .i64 z).wf = true ∧ e = .returned (.int .i64 z)) ∧ St w0 w' c a len cap ∧ (W.alloc (.cells C 3)).grownBy w' (some c) :=
  pickInt_any hcode (h.below (K0.below_new _ _)) hlen (Of.new W C 3 IsInt (of_all hC)) (by have := h.cur.lt; omega) h0 h1

theorem txt {l : List UInt8} (h : l.length ≤ 100) : IsTxt (.string ⟨l.toArray⟩) := ⟨_, by show l.toArray.size ≤ 100; simpa using h, rfl⟩

/-- Texts of which a law of the kernel says that they are short. -/
def shortV (v : Value) : Bool := match v with | .string s => decide (s.data.toList.length ≤ 100) | _ => false
theorem short_txt {v : Value} (h : shortV v = true) : IsTxt v := by
  cases v <;> simp [shortV] at h
  exact ⟨_, by show _ ≤ 100; rw [Lib.size_eq]; exact h, rfl⟩
theorem all_short {l : List Value} (h : l.all shortV = true) : ∀ v ∈ l, IsTxt v := fun v hv => short_txt (List.all_eq_true.1 h v hv)
end Go.Proofs.Ytifddipnboifnaa.C1
