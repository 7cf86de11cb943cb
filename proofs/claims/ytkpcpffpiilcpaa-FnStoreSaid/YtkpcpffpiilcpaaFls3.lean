/- The contract of the specification's Flush, as the given laws call it. -/
import Derived.Test.YtkpcpffpiilcpaaFls2
import Derived.Test.YtkpcpffpiilcpaaDev5
namespace Go.Proofs.Ytkpcpffpiilcpaa.F3
open Go.ChangeShapes Go.WideShapes Go.ChangeAt Go.RowKit
open X0 (row mix)
set_option linter.unusedVariables false
set_option linter.unusedSimpArgs false
set_option maxRecDepth 10000

/-- Whether there is something to flush. -/
def goes (a b : ByteArray) (i n : Int) : Bool := D1.ok a b && (B2.lies a.size i n && !decide (n = 0))

/-- What Flush leaves in Dur. -/
def flushed (a b : ByteArray) (i n : Int) : ByteArray := if goes a b i n then ⟨(mix a.data.toList b.data.toList (F2.span (i.toNat / 8) ((i.toNat + n.toNat - 1) / 8))).toArray⟩ else b

theorem goes_true {a b : ByteArray} {i n : Int} (h : goes a b i n = true) : (a.size = 768 ∧ b.size = 768) ∧ 0 ≤ i ∧ 1 ≤ n ∧ i + n ≤ 768 := by
  simp only [goes, Bool.and_eq_true, Bool.not_eq_true', decide_eq_false_iff_not] at h
  have h1 := D1.ok_true h.1
  have h2 := B2.lies_true h.2.1
  have h3 := h.2.2
  refine ⟨h1, ?_⟩
  omega

theorem fd_size (la lb : List UInt8) (p : Nat → Bool) : (⟨(mix la lb p).toArray⟩ : ByteArray).size = 768 := by
  show (mix la lb p).toArray.size = 768
  rw [List.size_toArray, X0.mix_len]

set_option maxHeartbeats 4000000 in
theorem spec_Flush (a b : ByteArray) (i n : Int) (w : World) (ha : a.size ≤ 281474976710656) (hb : b.size ≤ 281474976710656) (wi : (Lit.int .i64 i).wf = true) (wn : (Lit.int .i64 n).wf = true) :
    Calls Try.prog 17 #[.agg #[.string a, .string b], .int .i64 i, .int .i64 n] w fun e w' => e = .returned (.agg #[.string a, .string (flushed a b i n)]) ∧ Below w.heap.size w w' := by
  have hF := D2.fr_new a b w
  have hm : a.size ≤ maxLen := by unfold maxLen; omega
  by_cases hok : D1.ok a b = true
  · by_cases h1n : n < 1
    · have e : flushed a b i n = b := by
        rw [flushed, if_neg]
        intro h
        have := goes_true h
        omega
      rw [e]
      go_enter Try.func17, Try.ntmps17
      go_wp2_with (go_at_call 21; refine (D2.spec_DevOk_fr _ _ ha hb hF).mono ?_; rintro e w1 ⟨rfl, h1⟩; obtain ⟨d0, d1, d2, d3, d4, d5, d6, d7, d8, d9⟩ := id h1)
      have q := D2.ret2 (a := a) (b := b) d2 d3
      exact bodyPost_ret (v := .agg #[.string a, .string b]) (by simp [results, Try.results17, go_sem, q.1, q.2]) rfl ⟨rfl, h1.done _ _⟩
    · by_cases hlie : B2.lies a.size i n = true
      · have hgo : goes a b i n = true := by rw [goes, hok, hlie, decide_eq_false (by omega : ¬ n = 0)]; rfl
        obtain ⟨⟨ha7, hb7⟩, hi, hn, hin⟩ := goes_true hgo
        have e : flushed a b i n = ⟨(mix a.data.toList b.data.toList (F2.span (i.toNat / 8) ((i.toNat + n.toNat - 1) / 8))).toArray⟩ := if_pos hgo
        rw [e]
        clear e hgo
        have hps : ((B2.part a i n).size : Int) = n := by
          rw [B2.part, if_pos hlie, ByteArray.size_extract]
          omega
        obtain ⟨m, rfl⟩ : ∃ m : Nat, i = m := ⟨i.toNat, by omega⟩
        obtain ⟨c, rfl⟩ : ∃ c : Nat, n = c := ⟨n.toNat, by omega⟩
        simp only [Int.toNat_natCast]
        have hpn : (((B2.part a (m : Int) (c : Int)).size : Int) != (c : Int)) = false := by rw [hps]; simp
        have hlb : b.data.toList.length = 768 := by rw [← Lib.size_eq]; exact hb7
        obtain ⟨x, hx⟩ : ∃ x, m / 8 = x := ⟨_, rfl⟩
        obtain ⟨y, hy⟩ : ∃ y, (m + c - 1) / 8 = y := ⟨_, rfl⟩
        rw [hx, hy]
        have hx' : (m : Int) / 8 = (x : Int) := by omega
        have hy' : ((m : Int) + (c : Int) - 1) / 8 = (y : Int) := by omega
        have hxy : x ≤ y := by omega
        have hy95 : y ≤ 95 := by omega
        have hpt : Hid (∀ W, Calls Try.prog 48 #[.string a, .int .i64 (m : Int), .int .i64 (c : Int)] W fun e w' => e = .returned (.string (B2.part a (m : Int) (c : Int))) ∧ W = w') := fun W => (B2.spec_Part _ _ _ _ hm wi wn).mono fun _ _ h => ⟨h.1, h.2.symm⟩
        clear hps hlie
        go_enter Try.func17, Try.ntmps17
        go_wp2_with (first
          | (go_at_call 21; refine (D2.spec_DevOk_fr _ _ ha hb hF).mono ?_; rintro e w1 ⟨rfl, h1⟩; have c0 := h1.c0; have c1 := h1.c1)
          | (go_at_call 48; refine (hpt.out _).mono ?_; rintro e w' ⟨rfl, rfl⟩))
        go_loopw [7] (fun t w' => ∃ k : Nat, x ≤ k ∧ k ≤ y + 1 ∧ t = .int .i64 k ∧ D2.Fr w.heap.size w a ⟨(mix a.data.toList b.data.toList (F2.upto x y k)).toArray⟩ w') (fun t _ => y + 1 - (intOf t).toNat)
        case atStart =>
          refine ⟨x, Nat.le_refl _, by omega, rfl, ?_⟩
          rw [X0.mix_none _ _ hlb (F2.upto x y x) (fun k _ => decide_eq_false (by omega)), show (⟨b.data.toList.toArray⟩ : ByteArray) = b from Lib.mk_data b]
          exact h1
        case round =>
          obtain ⟨k, hxk, hky, rfl, hFr⟩ := hrel
          have z0 := hFr.c0
          have z1 := hFr.c1
          clear h1 c0 c1 hF
          by_cases hlt : k ≤ y
          · have e1 : (k : Int) ≤ (y : Int) := by omega
            have HM : Hid (B5.laid ⟨(mix a.data.toList b.data.toList (F2.upto x y k)).toArray⟩ ((k : Int) * 8) (B2.part a ((k : Int) * 8) 8) = ⟨(mix a.data.toList b.data.toList (F2.upto x y (k + 1))).toArray⟩) := X0.laid_row a b.data.toList (F2.upto x y k) (F2.upto x y (k + 1)) k ha7 (by omega) (fun i _ hi => F2.upto_step hi) (decide_eq_true (by omega))
            have hbs := fd_size a.data.toList b.data.toList (F2.upto x y k)
            obtain ⟨bk, hbk⟩ : ∃ bk : ByteArray, (⟨(mix a.data.toList b.data.toList (F2.upto x y k)).toArray⟩ : ByteArray) = bk := ⟨_, rfl⟩
            rw [hbk] at hFr z1 HM hbs
            have hk96 : k < 96 := by omega
            clear hbk hpt
            go_wp2_with (go_at_call 49; refine (F2.l02Line a bk k _ ha7 hbs hk96).mono ?_; rintro e w2 ⟨rfl, b2⟩; have h4 := hFr.below b2; have v0 := h4.c0; have v1 := h4.c1; have v2 := h4.g0; have v3 := h4.g1)
            have h5 := F2.set1 (h4.set0 a) (B5.laid bk ((k : Int) * 8) (B2.part a ((k : Int) * 8) 8))
            go_roundw
            case rel => exact ⟨k + 1, by omega, by omega, by go_num, by rw [← HM.out]; exact h5⟩
            case measure => simp [intOf]; omega
          · obtain rfl : k = y + 1 := by omega
            have hmc := X0.mix_congr a.data.toList b.data.toList (F2.upto x y (y + 1)) (F2.span x y) (fun i _ => by simp only [F2.upto, F2.span]; congr 1; apply propext; omega)
            rw [hmc] at hFr z1
            obtain ⟨bk, hbk⟩ : ∃ bk : ByteArray, (⟨(mix a.data.toList b.data.toList (F2.span x y)).toArray⟩ : ByteArray) = bk := ⟨_, rfl⟩
            rw [hbk] at hFr z1
            have HB : Hid ((⟨(mix a.data.toList b.data.toList (F2.span x y)).toArray⟩ : ByteArray) = bk) := hbk
            have d2 := hFr.r0
            have d3 := hFr.r1
            have d4 := hFr.f0
            have d5 := hFr.f1
            clear hbk hmc hpt
            go_wp2
            have q := D2.ret2 (a := a) (b := bk) d2 d3
            exact bodyPost_ret (v := .agg #[.string a, .string bk]) (by simp [results, Try.results17, go_sem, q.1, q.2]) rfl ⟨by rw [HB.out], hFr.done _ _⟩
      · have hlie' : B2.lies a.size i n = false := by simpa using hlie
        have e : flushed a b i n = b := by rw [flushed, goes, hlie', Bool.false_and, Bool.and_false]; rfl
        rw [e]
        have hps : ((B2.part a i n).size : Int) = 0 := by rw [B2.part, hlie']; rfl
        have hpn : (((B2.part a i n).size : Int) != n) = true := by rw [hps]; simp; omega
        have hpt : Hid (∀ W, Calls Try.prog 48 #[.string a, .int .i64 i, .int .i64 n] W fun e w' => e = .returned (.string (B2.part a i n)) ∧ W = w') := fun W => (B2.spec_Part _ _ _ _ hm wi wn).mono fun _ _ h => ⟨h.1, h.2.symm⟩
        clear hps hlie
        go_enter Try.func17, Try.ntmps17
        go_wp2_with (first
          | (go_at_call 21; refine (D2.spec_DevOk_fr _ _ ha hb hF).mono ?_; rintro e w1 ⟨rfl, h1⟩; obtain ⟨d0, d1, d2, d3, d4, d5, d6, d7, d8, d9⟩ := id h1)
          | (go_at_call 48; refine (hpt.out _).mono ?_; rintro e w' ⟨rfl, rfl⟩))
        have q := D2.ret2 (a := a) (b := b) d2 d3
        exact bodyPost_ret (v := .agg #[.string a, .string b]) (by simp [results, Try.results17, go_sem, q.1, q.2]) rfl ⟨rfl, h1.done _ _⟩
  · have hok' : D1.ok a b = false := by simpa using hok
    have e : flushed a b i n = b := by rw [flushed, goes, hok']; rfl
    rw [e]
    go_enter Try.func17, Try.ntmps17
    go_wp2_with (go_at_call 21; refine (D2.spec_DevOk_fr _ _ ha hb hF).mono ?_; rintro e w1 ⟨rfl, h1⟩; obtain ⟨d0, d1, d2, d3, d4, d5, d6, d7, d8, d9⟩ := id h1)
    have q := D2.ret2 (a := a) (b := b) d2 d3
    exact bodyPost_ret (v := .agg #[.string a, .string b]) (by simp [results, Try.results17, go_sem, q.1, q.2]) rfl ⟨rfl, h1.done _ _⟩
end Go.Proofs.Ytkpcpffpiilcpaa.F3
