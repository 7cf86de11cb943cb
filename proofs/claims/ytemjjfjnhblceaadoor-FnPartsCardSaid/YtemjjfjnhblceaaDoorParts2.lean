/- The walk of laws.FnParts: it answers true, and writes new memory alone. -/
import Derived.Test.YtemjjfjnhblceaaDoorParts1
import Derived.OpenShut
namespace Go.Proofs.YtemjjfjnhblceaaDoor.P1
open Go.ChangeShapes Go.WideShapes Go.ChangeAt Go.RowKit C0
set_option linter.unusedVariables false

theorem big_no (a : Option Addr) (len cap : Nat) (w : World) (hl : ¬ 1048576 < (len : Int)) : Calls Tryd.prog 4 #[.slice a len cap] w fun e w' => e = .returned (.bool false) ∧ w' = w := by
  have hl' : decide (1048576 < (len : Int)) = false := by simpa using hl
  go_enter Tryd.func4, Tryd.ntmps4
  go_wp2
  go_ret
  exact ⟨rfl, rfl⟩

theorem big_yes (a : Option Addr) (len cap : Nat) (w : World) (hl : 1048576 < (len : Int)) : Calls Tryd.prog 4 #[.slice a len cap] w fun e w' => e = .returned (.bool true) ∧ w' = w := by
  go_enter Tryd.func4, Tryd.ntmps4
  go_wp2
  go_ret
  exact ⟨rfl, rfl⟩

set_option maxRecDepth 100000 in
theorem walk_big (a : Option Addr) (len cap : Nat) (w : World) (hl : 1048576 < (len : Int)) :
    Calls Tryd.prog 3 #[.slice a len cap] w fun e w' => e = .returned (.bool true) ∧ Below w.heap.size w w' := by
  go_enter Tryd.func3, Tryd.ntmps3
  go_wp2_with (go_at_call 4; refine (big_yes a len cap w hl).mono ?_; rintro e w1 ⟨rfl, rfl⟩)
  go_ret
  exact ⟨rfl, Below.refl _ _⟩

theorem other {s : ByteArray} {i : Int} {t W : ByteArray} (hW : B5.laid s i t = W) {k : Nat} (h1 : k < W.size) (h2 : k < s.size) (hne : W[k] ≠ s[k]) : i ≤ k ∧ (k : Int) < i + t.size ∧ i + t.size ≤ s.size := by
  subst hW
  exact laid_other s i t k h1 h2 hne

theorem ne_byte {x y : UInt8} (h : x ≠ y) : ((x.toNat : Int) != (y.toNat : Int)) = true := by
  have : x.toNat ≠ y.toNat := fun e => h (UInt8.toNat.inj e)
  simp
  omega

theorem lt_of_cell {w : World} {b o : Nat} {v : Value} (h : w.cell? ⟨b, o, none⟩ = some v) : b < w.heap.size := by
  rcases Nat.lt_or_ge b w.heap.size with hlt | hge
  · exact hlt
  · unfold World.cell? at h
    rw [Array.getElem?_eq_none hge] at h
    simp at h

theorem given_of_row {w : World} {a : Option Addr} {len cap : Nat} {zs : List Int} (h : (a = none ∧ len = 0 ∧ cap = 0 ∧ zs = []) ∨ ∃ x, a = some x ∧ len ≤ cap ∧ cap ≤ maxLen ∧ zs.length = cap ∧ (∀ i, i < zs.length → w.cell? (x.add i) = some (.int .u8 (zs.getD i 0))) ∧ ∀ n ∈ zs, (Lit.int .u8 n).wf = true) : Given w a len := by
  intro k hk
  rcases h with ⟨rfl, rfl, rfl, rfl⟩ | ⟨x, rfl, hl, hm, hz, hcell, hwz⟩
  · exact absurd hk (Nat.not_lt_zero _)
  · obtain ⟨b, off, rfl, hc⟩ := ints_at hcell (by omega)
    have hck := hc k (by omega)
    have hmem : zs.getD k 0 ∈ zs := by
      rw [List.getD_eq_getElem?_getD, List.getElem?_eq_getElem (by omega : k < zs.length)]
      exact List.getElem_mem _
    have hwf := hwz _ hmem
    have hb : 0 ≤ zs.getD k 0 ∧ zs.getD k 0 ≤ 255 := by simpa [Lit.wf, IntKind.min, IntKind.max, IntKind.signed, IntKind.bits] using hwf
    exact ⟨b, off, zs.getD k 0, rfl, lt_of_cell hck, hb.1, by omega, hck⟩

set_option maxHeartbeats 0 in
set_option maxRecDepth 100000 in
theorem walk_small (a : Option Addr) (len cap : Nat) (w : World) (hc : Given w a len) (hl : len ≤ 1048576)
    (ht : Lib.TabIs Tryd.prog w "internal/strconv.uint64pow10" .u64 Lib.pow10Tab) (hx : Lib.TabIs Tryd.prog w "loop.example/g00278/impl.hexDigits" .u8 H1.tab) :
    Calls Tryd.prog 3 #[.slice a len cap] w fun e w' => e = .returned (.bool true) ∧ Below w.heap.size w w' := by
  have f0 : Below w.heap.size w w := Below.refl _ _
  have hbig : ¬ 1048576 < (len : Int) := by omega
  go_enter Tryd.func3, Tryd.ntmps3
  go_wp2_with (first
    | (go_at_call 4; refine (big_no a len cap w hbig).mono ?_; rintro e wb ⟨rfl, rfl⟩)
    | (go_at_call 5; refine (dWith hc hl f0).mono ?_; rintro e w1 ⟨s, i, t, hs, wi, hts, rfl, f1⟩)
    | (go_at_call 6; refine (iWith s i t hs hts f1).mono ?_; rintro e w2 ⟨W, hW, rfl, f2⟩)
    | (go_at_call 7; refine (dPart hc hl f2).mono ?_; rintro e w3 ⟨p, pa, pn, hp, wpa, wpn, rfl, f3⟩)
    | (go_at_call 8; refine (dPair hc hl f3).mono ?_; rintro e w4 ⟨m, wm, rfl, f4⟩)
    | (go_at_call 9; refine (dPairAt hc hl f4).mono ?_; rintro e w5 ⟨q, qb, hq, wqb, rfl, f5⟩)
    | (go_at_call 10; refine (dZeros hc hl f5).mono ?_; rintro e w6 ⟨z, wz, rfl, f6⟩)
    | (go_at_call 11; refine (dReadDec hc hl f6).mono ?_; rintro e w7 ⟨d, hd, rfl, f7⟩)
    | (go_at_call 12; refine (dDecText hc hl f7).mono ?_; rintro e w8 ⟨x, wx, rfl, f8⟩)
    | (go_at_call 13; refine (dHex hc hl f8).mono ?_; rintro e w9 ⟨h, hh, rfl, f9⟩)
    | (go_at_call 14; refine (dWords hc hl f9).mono ?_; rintro e w10 ⟨v, hv, rfl, f10⟩)
    | (go_at_call 15; refine (dByteAt hc hl f10).mono ?_; rintro e w11 ⟨y, yc, hy, wyc, rfl, f11⟩)
    | (go_at_call 16; refine (sWith s i t W hs hts hW f11).mono ?_; rintro e w12 ⟨rfl, f12⟩)
    | (go_at_call 17; refine (iPart p pa pn hp f12).mono ?_; rintro e w13 ⟨rfl, f13⟩)
    | (go_at_call 18; refine (sPart p pa pn hp wpa wpn f13).mono ?_; rintro e w14 ⟨rfl, f14⟩)
    | (go_at_call 19; refine (iPair m f14).mono ?_; rintro e w15 ⟨rfl, f15⟩)
    | (go_at_call 20; refine (sPair m f15).mono ?_; rintro e w16 ⟨rfl, f16⟩)
    | (go_at_call 21; refine (iPairAt q qb hq f16).mono ?_; rintro e w17 ⟨rfl, f17⟩)
    | (go_at_call 22; refine (sPairAt q qb hq f17).mono ?_; rintro e w18 ⟨rfl, f18⟩)
    | (go_at_call 23; refine (iZeros z f18).mono ?_; rintro e w19 ⟨rfl, f19⟩)
    | (go_at_call 24; refine (sZeros z f19).mono ?_; rintro e w20 ⟨rfl, f20⟩)
    | (go_at_call 25; refine (iReadDec d hd ht f33).mono ?_; rintro e w34 ⟨rfl, f34⟩)
    | (go_at_call 25; refine (iReadDec d hd ht f32).mono ?_; rintro e w33 ⟨rfl, f33⟩)
    | (go_at_call 25; refine (iReadDec d hd ht f20).mono ?_; rintro e w21 ⟨rfl, f21⟩; have rb := rd_bounds d)
    | (go_at_call 26; refine (sReadDec d hd f21).mono ?_; rintro e w22 ⟨rfl, f22⟩)
    | (go_at_call 27; refine (iDecText (R0.rd d) (C1.wf64 (by omega) (by omega)) ht f34).mono ?_; rintro e w35 ⟨rfl, f35⟩; have hrt : (Lib.itoa (R0.rd d) == d.toList) = true := (by rw [Lib.toList_data, rd_text d (by omega)]; exact beq_self_eq_true _))
    | (go_at_call 27; refine (iDecText x wx ht f22).mono ?_; rintro e w23 ⟨rfl, f23⟩)
    | (go_at_call 28; refine (sDecText x wx f23).mono ?_; rintro e w24 ⟨rfl, f24⟩)
    | (go_at_call 29; refine (iHex h hh hx f31).mono ?_; rintro e w32 ⟨rfl, f32⟩; have hxs := hex_size h)
    | (go_at_call 29; refine (iHex h hh hx f24).mono ?_; rintro e w25 ⟨rfl, f25⟩)
    | (go_at_call 30; refine (sHex h hh f25).mono ?_; rintro e w26 ⟨rfl, f26⟩)
    | (go_at_call 32; refine (iWords v hv f26).mono ?_; rintro e w27 ⟨g1, c1, rfl, r1, f27⟩)
    | (go_at_call 33; refine (sWords v g1 hv r1 f27).mono ?_; rintro e w28 ⟨g2, c2, rfl, r2, r1b, f28⟩)
    | (go_at_call 31; refine (same v g1 c1 g2 c2 hv r1b r2 f28).mono ?_; rintro e w29 ⟨rfl, f29⟩)
    | (go_at_call 34; refine (iByteAt y yc hy f29).mono ?_; rintro e w30 ⟨rfl, f30⟩)
    | (go_at_call 35; refine (sByteAt y yc hy f30).mono ?_; rintro e w31 ⟨rfl, f31⟩; have hWs : W.size = s.size := (by rw [← hW.out]; exact laid_size s i t)))
  · have fN : ∀ n, Below wb.heap.size wb (w35.drewN n) := fun n => trN f35 n
    have hps : (⟨#[120]⟩ : ByteArray).size + (B3.pair m).size ≤ 9223372036854775807 := by have := pair_size m; show 1 + _ ≤ _; omega
    have hpz := pair_size m
    have hp8 : Hid ((⟨#[120]⟩ ++ B3.pair m : ByteArray).size ≤ 8) := show _ ≤ 8 by rw [ByteArray.size_append]; show 1 + _ ≤ _; omega
    have hpb0 : Hid (¬ (B3.pair m).toList = [] → B6.pairAt (⟨#[120]⟩ ++ B3.pair m) 1 = m) := fun h => pair_back m h
    clear f0 f1 f2 f3 f4 f5 f6 f7 f8 f9 f10 f11 f12 f13 f14 f15 f16 f17 f18 f19 f20 f21 f22 f23 f24 f25 f26 f27 f28 f29 f30 f31 f32 r1 r2 r1b hxs
    go_loopw [20] (fun ix w' => ∃ k n : Nat, k ≤ s.size ∧ w' = w35.drewN n ∧ ix = .int .i64 k) (fun ix _ => s.size - (intOf ix).toNat)
    case atStart => exact ⟨0, 0, Nat.zero_le _, rfl, rfl⟩
    case round =>
      obtain ⟨k, n, hk, rfl, rfl⟩ := hrel
      by_cases hlt : k < s.size
      · have e1 : (0 : Int) ≤ (k : Int) := by omega
        have e2 : (k : Int) < (s.size : Int) := by omega
        have hkW : k < W.size := by omega
        by_cases hb : W[k] = s[k]
        · have hb' : ((W[k].toNat : Int) != (s[k].toNat : Int)) = false := by simp [hb]
          clear hb
          go_wp2
          go_quiet (fail)
          go_wp2
          go_roundw
          case rel => exact ⟨k + 1, _, by omega, rfl, by go_num⟩
          case measure => simp [intOf]; omega
        · have hb' : ((W[k].toNat : Int) != (s[k].toNat : Int)) = true := ne_byte hb
          obtain ⟨o1, o2, o3⟩ := other hW.out hkW hlt hb
          have q1 : decide ((k : Int) < i) = false := by simp; omega
          have q2 : decide (i + (t.size : Int) ≤ (k : Int)) = false := by simp; omega
          clear hb
          go_wp2
          go_quiet (fail)
          go_wp2
          go_roundw
          case rel => exact ⟨k + 1, _, by omega, rfl, by go_num⟩
          case measure => simp [intOf]; omega
      · have fn := fN n
        go_wp2_with (first
          | (go_at_call 17; refine (iPart W i t.size (by omega) fn).mono ?_; rintro e w36 ⟨rfl, f36⟩; have hpq : B2.part W i t.size = t := (by rw [← hW.out]; exact part_laid s i t (by omega) (by omega)))
          | (go_at_call 19; refine (iPair m f37).mono ?_; rintro e w38 ⟨rfl, f38⟩; have hpb := hpb0.out (by assumption))
          | (go_at_call 21; refine (iPairAt _ 1 hp8.out f38).mono ?_; rintro e w39 ⟨rfl, f39⟩)
          | (go_at_call 19; refine (iPair m f36).mono ?_; rintro e w37 ⟨rfl, f37⟩)
          | (go_at_call 19; refine (iPair m fn).mono ?_; rintro e w37 ⟨rfl, f37⟩))
        all_goals go_ret
        all_goals first | exact ⟨rfl, f39⟩ | exact ⟨rfl, f37⟩
  · have fN : ∀ n, Below wb.heap.size wb (w33.drewN n) := fun n => trN f33 n
    have hps : (⟨#[120]⟩ : ByteArray).size + (B3.pair m).size ≤ 9223372036854775807 := by have := pair_size m; show 1 + _ ≤ _; omega
    have hpz := pair_size m
    have hp8 : Hid ((⟨#[120]⟩ ++ B3.pair m : ByteArray).size ≤ 8) := show _ ≤ 8 by rw [ByteArray.size_append]; show 1 + _ ≤ _; omega
    have hpb0 : Hid (¬ (B3.pair m).toList = [] → B6.pairAt (⟨#[120]⟩ ++ B3.pair m) 1 = m) := fun h => pair_back m h
    clear f0 f1 f2 f3 f4 f5 f6 f7 f8 f9 f10 f11 f12 f13 f14 f15 f16 f17 f18 f19 f20 f21 f22 f23 f24 f25 f26 f27 f28 f29 f30 f31 f32 r1 r2 r1b hxs
    go_loopw [20] (fun ix w' => ∃ k n : Nat, k ≤ s.size ∧ w' = w33.drewN n ∧ ix = .int .i64 k) (fun ix _ => s.size - (intOf ix).toNat)
    case atStart => exact ⟨0, 0, Nat.zero_le _, rfl, rfl⟩
    case round =>
      obtain ⟨k, n, hk, rfl, rfl⟩ := hrel
      by_cases hlt : k < s.size
      · have e1 : (0 : Int) ≤ (k : Int) := by omega
        have e2 : (k : Int) < (s.size : Int) := by omega
        have hkW : k < W.size := by omega
        by_cases hb : W[k] = s[k]
        · have hb' : ((W[k].toNat : Int) != (s[k].toNat : Int)) = false := by simp [hb]
          clear hb
          go_wp2
          go_quiet (fail)
          go_wp2
          go_roundw
          case rel => exact ⟨k + 1, _, by omega, rfl, by go_num⟩
          case measure => simp [intOf]; omega
        · have hb' : ((W[k].toNat : Int) != (s[k].toNat : Int)) = true := ne_byte hb
          obtain ⟨o1, o2, o3⟩ := other hW.out hkW hlt hb
          have q1 : decide ((k : Int) < i) = false := by simp; omega
          have q2 : decide (i + (t.size : Int) ≤ (k : Int)) = false := by simp; omega
          clear hb
          go_wp2
          go_quiet (fail)
          go_wp2
          go_roundw
          case rel => exact ⟨k + 1, _, by omega, rfl, by go_num⟩
          case measure => simp [intOf]; omega
      · have fn := fN n
        go_wp2_with (first
          | (go_at_call 17; refine (iPart W i t.size (by omega) fn).mono ?_; rintro e w36 ⟨rfl, f36⟩; have hpq : B2.part W i t.size = t := (by rw [← hW.out]; exact part_laid s i t (by omega) (by omega)))
          | (go_at_call 19; refine (iPair m f37).mono ?_; rintro e w38 ⟨rfl, f38⟩; have hpb := hpb0.out (by assumption))
          | (go_at_call 21; refine (iPairAt _ 1 hp8.out f38).mono ?_; rintro e w39 ⟨rfl, f39⟩)
          | (go_at_call 19; refine (iPair m f36).mono ?_; rintro e w37 ⟨rfl, f37⟩)
          | (go_at_call 19; refine (iPair m fn).mono ?_; rintro e w37 ⟨rfl, f37⟩))
        all_goals go_ret
        all_goals first | exact ⟨rfl, f39⟩ | exact ⟨rfl, f37⟩
end Go.Proofs.YtemjjfjnhblceaaDoor.P1
