/- The contract of impl.GetInode, as the given laws call it. -/
import Derived.Test.YtacalabjclclhaaGet2
namespace Go.Proofs.Ytacalabjclclhaa.G3
open Go.ChangeShapes Go.WideShapes Go.ChangeAt Go.RowKit
set_option linter.unusedVariables false
set_option linter.unusedSimpArgs false
set_option maxRecDepth 10000

open I0 (val vals)

/-- What GetInode answers. -/
def Ans (s : ByteArray) (w : World) (e : Ending) (w' : World) : Prop :=
  ∃ a c, e = .returned (.tuple #[val (G0.gK s) (G0.gO s) (G0.gS s) a (G0.gZ s).length c, .bool (G0.isI s)]) ∧ J0.Own w.heap.size w' a (G0.gZ s) ∧ (G0.gZ s).length ≤ c ∧ Below w.heap.size w w'

theorem ans_no {s : ByteArray} {w w' : World} (h : G0.isI s = false) (hb : Below w.heap.size w w') : Ans s w (.returned (.tuple #[val 0 0 0 none 0 0, .bool false])) w' := by
  obtain ⟨h1, h2, h3, h4⟩ := G0.g_no h
  exact ⟨none, 0, by rw [h1, h2, h3, h4, h]; rfl, by rw [h4]; exact Or.inl rfl, by rw [h4]; exact Nat.le_refl _, hb⟩

theorem ans_yes {s : ByteArray} {w w' : World} {a : Option Addr} {c : Nat} (h : G0.isI s = true) (ho : J0.Own w.heap.size w' a (G0.pgs s (G0.cnt s))) (hc : (G0.pgs s (G0.cnt s)).length ≤ c) (hb : Below w.heap.size w w') :
    Ans s w (.returned (.tuple #[val (B1.byteAt s 0) (B1.byteAt s 1) (B6.pairAt s 2) a (G0.pgs s (G0.cnt s)).length c, .bool true])) w' := by
  obtain ⟨h1, h2, h3, h4⟩ := G0.g_yes h
  exact ⟨a, c, by rw [h1, h2, h3, h4, h], by rw [h4]; exact ho, by rw [h4]; exact hc, hb⟩

/-- A free inode. -/
theorem ans_free {s : ByteArray} {w w' : World} (h : G0.isI s = true) (hk : B1.byteAt s 0 = 0) (hb : Below w.heap.size w w') : Ans s w (.returned (.tuple #[val 0 0 0 none 0 0, .bool true])) w' := by
  have hok := (G0.isI_ok h).2.2
  rw [I0.ok, if_pos hk] at hok
  simp only [I0.free, Bool.and_eq_true, decide_eq_true_eq] at hok
  have hz : G0.pgs s (G0.cnt s) = [] := List.eq_nil_of_length_eq_zero hok.2.2
  have := ans_yes (a := none) (c := 0) h (by rw [hz]; exact Or.inl rfl) (by rw [hz]; exact Nat.le_refl _) hb
  rwa [hk, hok.1, hok.2.1, hz] at this

variable {w W W' : World}

theorem read_no {s : ByteArray} (hs : s.size ≤ 281474976710656) (h : G0.isI s = false) :
    Calls Try.prog 88 #[.string s] W fun e w' => e = .returned (.tuple #[.nilIface, .bool false]) ∧ Below W.heap.size W w' :=
  (G2.readRecord s W hs).mono fun e w' ⟨hb, hc⟩ => by
    rcases hc with ⟨_, he⟩ | ⟨h2, _⟩
    · exact ⟨he, hb⟩
    · rw [h] at h2; cases h2

theorem read_yes {s : ByteArray} (hs : s.size ≤ 281474976710656) (h : G0.isI s = true) {v : Value → Value} (hv : ∀ x, I1.rec (B1.byteAt s 0) x = v x) :
    Calls Try.prog 88 #[.string s] W fun e w' => ∃ a c, e = .returned (.tuple #[v (val (B1.byteAt s 0) (B1.byteAt s 1) (B6.pairAt s 2) a (G0.pgs s (G0.cnt s)).length c), .bool true]) ∧ J0.Own W.heap.size w' a (G0.pgs s (G0.cnt s)) ∧ (G0.pgs s (G0.cnt s)).length ≤ c ∧ Below W.heap.size W w' :=
  (G2.readRecord s W hs).mono fun e w' ⟨hb, hc⟩ => by
    rcases hc with ⟨h2, _⟩ | ⟨_, a, c, he, ho, hl⟩
    · rw [h] at h2; cases h2
    · exact ⟨a, c, by rw [he, hv], ho, hl, hb⟩

/-- The answer's block, with the pages. -/
structure Rs (w : World) (a : Option Addr) (zs : List Int) (W : World) : Prop where
  res : K0.Blk w.heap.size (vals 0 0 0 none 0 0) W
  own : J0.Own (w.heap.size + 1) W a zs
  bel : Below w.heap.size w W

theorem Rs.below {a : Option Addr} {zs : List Int} (h : Rs w a zs W) (hb : Below W.heap.size W W') : Rs w a zs W' := ⟨h.res.below hb, h.own.below hb, h.bel.trans (hb.mono h.bel.size)⟩

theorem rs_new {a : Option Addr} {zs : List Int} (hb : Below (w.alloc (.cells #[.int .i64 0, .int .i64 0, .int .i64 0, .slice none 0 0] 26)).heap.size (w.alloc (.cells #[.int .i64 0, .int .i64 0, .int .i64 0, .slice none 0 0] 26)) W)
    (ho : J0.Own (w.alloc (.cells #[.int .i64 0, .int .i64 0, .int .i64 0, .slice none 0 0] 26)).heap.size W a zs) : Rs w a zs W :=
  ⟨(K0.blk_new (vals 0 0 0 none 0 0) w 26).below hb, ho.mono (by simp), (K0.below_new w _).trans (hb.mono (by simp))⟩

theorem Rs.done {a : Option Addr} {zs : List Int} (h : Rs w a zs W) (x y z u : Value) : J0.Own w.heap.size ((((W.setCell ⟨w.heap.size, 0, none⟩ x).setCell ⟨w.heap.size, 1, none⟩ y).setCell ⟨w.heap.size, 2, none⟩ z).setCell ⟨w.heap.size, 3, none⟩ u) a zs ∧
    Below w.heap.size w ((((W.setCell ⟨w.heap.size, 0, none⟩ x).setCell ⟨w.heap.size, 1, none⟩ y).setCell ⟨w.heap.size, 2, none⟩ z).setCell ⟨w.heap.size, 3, none⟩ u) :=
  ⟨((((h.own.set (Nat.lt_succ_self _) 0 x).set (Nat.lt_succ_self _) 1 y).set (Nat.lt_succ_self _) 2 z).set (Nat.lt_succ_self _) 3 u).mono (Nat.le_succ _),
   (((h.bel.setCell (p := ⟨w.heap.size, 0, none⟩) (Nat.le_refl _) _).setCell (p := ⟨w.heap.size, 1, none⟩) (Nat.le_refl _) _).setCell (p := ⟨w.heap.size, 2, none⟩) (Nat.le_refl _) _).setCell (p := ⟨w.heap.size, 3, none⟩) (Nat.le_refl _) _⟩

set_option maxHeartbeats 2000000 in
theorem impl_GetInode (s : ByteArray) (w : World) (hs : s.size ≤ 281474976710656) : Calls Try.prog 21 #[.string s] w (Ans s w) := by
  by_cases hI : G0.isI s = true
  · have hok := R0.ok_bounds (G0.isI_ok hI).2.2
    by_cases h0 : B1.byteAt s 0 = 0
    · have hv : ∀ x, I1.rec (B1.byteAt s 0) x = .iface 162 x := fun x => by rw [I1.rec, if_pos h0]
      have HF : Hid (∀ w', Below w.heap.size w w' → Ans s w (.returned (.tuple #[val 0 0 0 none 0 0, .bool true])) w') := fun w' hb => ans_free hI h0 hb
      have hr : Hid (∀ W, Calls Try.prog 88 #[.string s] W fun e w' => ∃ a c, e = .returned (.tuple #[.iface 162 (val (B1.byteAt s 0) (B1.byteAt s 1) (B6.pairAt s 2) a (G0.pgs s (G0.cnt s)).length c), .bool true]) ∧ J0.Own W.heap.size w' a (G0.pgs s (G0.cnt s)) ∧ (G0.pgs s (G0.cnt s)).length ≤ c ∧ Below W.heap.size W w') := fun W => read_yes hs hI hv
      clear hok hv h0 hI
      go_enter Try.func21, Try.ntmps21
      go_wp2_with (first
        | (go_at_call 88; refine (hr.out _).mono ?_; rintro e w1 ⟨a, c, rfl, ho, hl, b1⟩; have r1 := rs_new b1 ho)
        | (go_at_call 89; refine (G1.inodeOf0 _ _ _ _ _ _ _).mono ?_; rintro e w2 ⟨rfl, b2⟩; have r2 := r1.below b2; have c0 := r2.res.c0; have c1 := r2.res.c1; have c2 := r2.res.c2; have c3 := r2.res.c3; have f0 := r2.res.f0; have f1 := r2.res.f1; have f2 := r2.res.f2; have f3 := r2.res.f3))
      have q := r2.res.put4 (.int .i64 0) (.int .i64 0) (.int .i64 0) (.slice none 0 0)
      have d := r2.done (.int .i64 0) (.int .i64 0) (.int .i64 0) (.slice none 0 0)
      exact bodyPost_ret (v := .tuple #[val 0 0 0 none 0 0, .bool true]) (by simp [results, Try.results21, go_sem, q.c0, q.c1, q.c2, q.c3]) rfl (HF.out _ d.2)
    · have HF : Hid (∀ a c w', J0.Own w.heap.size w' a (G0.pgs s (G0.cnt s)) → (G0.pgs s (G0.cnt s)).length ≤ c → Below w.heap.size w w' → Ans s w (.returned (.tuple #[val (B1.byteAt s 0) (B1.byteAt s 1) (B6.pairAt s 2) a (G0.pgs s (G0.cnt s)).length c, .bool true])) w') := fun a c w' ho hl hb => ans_yes hI ho hl hb
      by_cases h1 : B1.byteAt s 0 = 1
      · have hv : ∀ x, I1.rec (B1.byteAt s 0) x = .iface 157 x := fun x => by rw [I1.rec, if_neg h0, if_pos h1]
        have hr : Hid (∀ W, Calls Try.prog 88 #[.string s] W fun e w' => ∃ a c, e = .returned (.tuple #[.iface 157 (val (B1.byteAt s 0) (B1.byteAt s 1) (B6.pairAt s 2) a (G0.pgs s (G0.cnt s)).length c), .bool true]) ∧ J0.Own W.heap.size w' a (G0.pgs s (G0.cnt s)) ∧ (G0.pgs s (G0.cnt s)).length ≤ c ∧ Below W.heap.size W w') := fun W => read_yes hs hI hv
        clear hok hv h0 h1 hI
        go_enter Try.func21, Try.ntmps21
        go_wp2_with (first
          | (go_at_call 88; refine (hr.out _).mono ?_; rintro e w1 ⟨a, c, rfl, ho, hl, b1⟩; have r1 := rs_new b1 ho)
          | (go_at_call 89; refine (G1.inodeOf1 _ _ _ _ _ _ _).mono ?_; rintro e w2 ⟨rfl, b2⟩; have r2 := r1.below b2; have c0 := r2.res.c0; have c1 := r2.res.c1; have c2 := r2.res.c2; have c3 := r2.res.c3; have f0 := r2.res.f0; have f1 := r2.res.f1; have f2 := r2.res.f2; have f3 := r2.res.f3))
        have q := r2.res.put4 (.int .i64 (B1.byteAt s 0)) (.int .i64 (B1.byteAt s 1)) (.int .i64 (B6.pairAt s 2)) (.slice a (G0.pgs s (G0.cnt s)).length c)
        have d := r2.done (.int .i64 (B1.byteAt s 0)) (.int .i64 (B1.byteAt s 1)) (.int .i64 (B6.pairAt s 2)) (.slice a (G0.pgs s (G0.cnt s)).length c)
        exact bodyPost_ret (v := .tuple #[val (B1.byteAt s 0) (B1.byteAt s 1) (B6.pairAt s 2) a (G0.pgs s (G0.cnt s)).length c, .bool true]) (by simp [results, Try.results21, go_sem, q.c0, q.c1, q.c2, q.c3]) rfl (HF.out _ _ _ d.1 hl d.2)
      · have h2 : B1.byteAt s 0 = 2 := by omega
        have hv : ∀ x, I1.rec (B1.byteAt s 0) x = .iface 159 x := fun x => by rw [I1.rec, if_neg h0, if_neg h1, if_pos h2]
        have hr : Hid (∀ W, Calls Try.prog 88 #[.string s] W fun e w' => ∃ a c, e = .returned (.tuple #[.iface 159 (val (B1.byteAt s 0) (B1.byteAt s 1) (B6.pairAt s 2) a (G0.pgs s (G0.cnt s)).length c), .bool true]) ∧ J0.Own W.heap.size w' a (G0.pgs s (G0.cnt s)) ∧ (G0.pgs s (G0.cnt s)).length ≤ c ∧ Below W.heap.size W w') := fun W => read_yes hs hI hv
        clear hok hv h0 h1 h2 hI
        go_enter Try.func21, Try.ntmps21
        go_wp2_with (first
          | (go_at_call 88; refine (hr.out _).mono ?_; rintro e w1 ⟨a, c, rfl, ho, hl, b1⟩; have r1 := rs_new b1 ho)
          | (go_at_call 89; refine (G1.inodeOf2 _ _ _ _ _ _ _).mono ?_; rintro e w2 ⟨rfl, b2⟩; have r2 := r1.below b2; have c0 := r2.res.c0; have c1 := r2.res.c1; have c2 := r2.res.c2; have c3 := r2.res.c3; have f0 := r2.res.f0; have f1 := r2.res.f1; have f2 := r2.res.f2; have f3 := r2.res.f3))
        have q := r2.res.put4 (.int .i64 (B1.byteAt s 0)) (.int .i64 (B1.byteAt s 1)) (.int .i64 (B6.pairAt s 2)) (.slice a (G0.pgs s (G0.cnt s)).length c)
        have d := r2.done (.int .i64 (B1.byteAt s 0)) (.int .i64 (B1.byteAt s 1)) (.int .i64 (B6.pairAt s 2)) (.slice a (G0.pgs s (G0.cnt s)).length c)
        exact bodyPost_ret (v := .tuple #[val (B1.byteAt s 0) (B1.byteAt s 1) (B6.pairAt s 2) a (G0.pgs s (G0.cnt s)).length c, .bool true]) (by simp [results, Try.results21, go_sem, q.c0, q.c1, q.c2, q.c3]) rfl (HF.out _ _ _ d.1 hl d.2)
  · have hI' : G0.isI s = false := by simpa using hI
    have HF : Hid (∀ w', Below w.heap.size w w' → Ans s w (.returned (.tuple #[val 0 0 0 none 0 0, .bool false])) w') := fun w' hb => ans_no hI' hb
    have hr : Hid (∀ W, Calls Try.prog 88 #[.string s] W fun e w' => e = .returned (.tuple #[.nilIface, .bool false]) ∧ Below W.heap.size W w') := fun W => read_no hs hI'
    clear hI hI'
    go_enter Try.func21, Try.ntmps21
    go_wp2_with (go_at_call 88; refine (hr.out _).mono ?_; rintro e w1 ⟨rfl, b1⟩; have r1 := rs_new (a := none) (zs := []) b1 (Or.inl rfl); have c0 := r1.res.c0; have c1 := r1.res.c1; have c2 := r1.res.c2; have c3 := r1.res.c3; have f0 := r1.res.f0; have f1 := r1.res.f1; have f2 := r1.res.f2; have f3 := r1.res.f3)
    have q := r1.res.put4 (.int .i64 0) (.int .i64 0) (.int .i64 0) (.slice none 0 0)
    have d := r1.done (.int .i64 0) (.int .i64 0) (.int .i64 0) (.slice none 0 0)
    exact bodyPost_ret (v := .tuple #[val 0 0 0 none 0 0, .bool false]) (by simp [results, Try.results21, go_sem, q.c0, q.c1, q.c2, q.c3]) rfl (HF.out _ d.2)
end Go.Proofs.Ytacalabjclclhaa.G3
