/- Joined texts: plain facts and contracts, as each part says. -/
import Derived.Test.YtkdjcbmmbjongaaJpG
import Derived.Test.YtkdjcbmmbjongaaJpH
import Derived.Test.YtkdjcbmmbjongaaJpB
import Derived.Test.YtkdjcbmmbjongaaJpK
import Derived.Test.YtkdjcbmmbjongaaJpL
import Derived.Test.YtkdjcbmmbjongaaJpF
import Derived.Deep.RegionHeld3

/- The contract of spec.l07Write, as the given laws call it. -/
namespace Go.Proofs.Ytkdjcbmmbjongaa.SY
open Go.ChangeShapes Go.WideShapes Go.ChangeAt Go.RowKit
set_option linter.unusedVariables false
set_option linter.unusedSimpArgs false
set_option maxRecDepth 10000

open J0 (IBuf Own)
open PQ (PBuf)
open SQ (Ans ans_no row_take)

theorem need_any (s : Int) (w : World) (h0 : 0 ≤ s) (h1 : s ≤ 281474976710656) :
    Calls Try.prog 41 #[.int .i64 s] w fun e w' => e = .returned (.int .i64 (P0.need s)) ∧ w' = w := by
  have e : P0.need s = (s + 32 - 1) / 32 := by unfold P0.need; omega
  rw [e]
  go_enter Try.func41, Try.ntmps41
  go_wp2
  go_ret
  exact ⟨rfl, rfl⟩

theorem page_any (mem : ByteArray) (j : Nat) (w : World) (hs : mem.size ≤ 281474976710656) (hj : j ≤ 1000) :
    Calls Try.prog 43 #[.string mem, .int .i64 (j : Int)] w fun e w' => e = .returned (.string (B2.part mem ((j : Int) * 32) 32)) ∧ w' = w := by
  have hm : mem.size ≤ maxLen := by unfold maxLen; omega
  have hw : (Lit.int .i64 ((j : Int) * 32)).wf = true := N11.wf_of _ (by omega) (by omega)
  go_enter Try.func43, Try.ntmps43
  go_wp2_with (go_at_call 59; refine (B2.spec_Part _ _ _ _ hm hw (by decide)).mono ?_; rintro e w' ⟨rfl, rfl⟩)
  go_ret
  exact ⟨rfl, rfl⟩

/-- 'append(list, put)' as a step of a region that draws its order. -/
theorem step_put {base n cap : Nat} {a : Option Addr} {w : World} {es : List T0.Ent} {ops : Array Oper} {o : Oper} {A : Act} {K : Act → World → Prop} {Q : Exit → Act → World → Prop} {E : Prop} (hgd : o.guard = none) (sl x : Operand)
    (ho : o.op = .call { callee := .builtin .append, args := #[sl, x], argTypes := #[25, 25] })
    (hbuf : PBuf base w a n cap es) (u : Int) (v : ByteArray) (hs : A.eval sl = .slice a n cap) {H : Nat} (hH : w.heap.size = H) (hx : A.eval x = .slice (some ⟨H, 0, none⟩) 1 1) (hlen : n + 1 ≤ 1048576) (hb : base ≤ w.heap.size)
    (h : ∀ g' cap' w', PBuf base w' (some ⟨g', 0, none⟩) (n + 1) cap' (es ++ [(u, v)]) → Below base w w' → K (A.put o.dst (.slice (some ⟨g', 0, none⟩) (n + 1) cap')) w') :
    if Region.wanted o (yielded ops A.tmps) = true then Oper.wp Try.prog o A (w.alloc (.cells #[.int .i64 u, .string v] 45)) K Q else E := by
  subst hH
  obtain ⟨i0, hi, hz0, hz1, hz2⟩ := info_parts PP.info33
  have hb2 := hbuf.alloc (.cells #[.int .i64 u, .string v] 45)
  refine step_append_lies _ hgd sl x 25 ho base 45 i0 (.agg #[.int .i64 0, .string ⟨#[]⟩]) 2 24 Try.underlying25 hi hz0 hz1 hz2 rfl (by omega) _ n _ hs hb2.2 ⟨w.heap.size, 0, none⟩ 1 1 [.int .i64 u, .string v] hx rfl (World.news_of_block (heap_alloc_new w _)) (V1.one_ent u v) (by omega) (by unfold maxLen; omega) (by omega) (by simp; omega) _ rfl ?_
  intro g' cap' w' ho' hg' hl' _
  refine h g' cap' w' ⟨by rw [hbuf.1]; simp, ?_⟩ ?_
  · rw [← V1.flat_append]
    exact ho'
  · exact F0.below_grown ((Below.refl _ _).alloc hb _) hg' (fun g hg => (hbuf.2.lt g hg).1) (by simp; omega)

set_option maxHeartbeats 4000000 in
theorem l07Write (ino k o s : Int) (an am : Option Addr) (cn cm : Nat) (pg may : List Int) (data : ByteArray) (w : World) (hd : data.size ≤ 281474976710656) (h1 : pg.length ≤ 1000) (h2 : may.length ≤ 1000) (hpg : ∀ z ∈ PF.grow pg may [], 5 ≤ z ∧ z ≤ 23) (hR : P0.Row w an pg) (hM : P0.Row w am may) :
    Calls Try.prog 26 #[.int .i64 ino, I0.val k o s an pg.length cn, .slice am may.length cm, .string data] w (Ans (PF.puts ino k o (PF.grow pg may []) data) (PF.fitsIn (PF.grow pg may []) data) w) := by
  have l0 := K0.below_new w (.cells #[.int .i64 k, .int .i64 o, .int .i64 s, .slice an pg.length cn] 51)
  have k0 := K0.blk_new [.int .i64 k, .int .i64 o, .int .i64 s, .slice an pg.length cn] w 51
  have e0 : (w.alloc (.cells #[.int .i64 k, .int .i64 o, .int .i64 s, .slice an pg.length cn] 51)).heap.size = w.heap.size + 1 := by simp
  have n1 := K0.below_new (w.alloc (.cells #[.int .i64 k, .int .i64 o, .int .i64 s, .slice an pg.length cn] 51)) (.cells #[] 3)
  have B1 := J0.ibuf_made (base := w.heap.size + 1) (w.alloc (.cells #[.int .i64 k, .int .i64 o, .int .i64 s, .slice an pg.length cn] 51)) (by rw [e0]; exact Nat.le_refl _)
  have k1 := k0.below n1
  have c3 := k1.c3
  rw [e0] at n1 B1
  have HB : Hid (∀ W, Below (w.heap.size + 1) (w.alloc (.cells #[.int .i64 k, .int .i64 o, .int .i64 s, .slice an pg.length cn] 51)) W → Below w.heap.size w W ∧ K0.Blk w.heap.size [.int .i64 k, .int .i64 o, .int .i64 s, .slice an pg.length cn] W) := fun W hW => ⟨l0.trans (hW.mono (Nat.le_succ _)), J0.blk_keep k0 hW (Nat.lt_succ_self _)⟩
  have R1 := hR.below (HB.out _ n1).1
  have HM : Hid (∀ W, Below w.heap.size w W → P0.Row W am may) := fun W hW => hM.below hW
  have hsz1 : w.heap.size + 1 ≤ ((w.alloc (.cells #[.int .i64 k, .int .i64 o, .int .i64 s, .slice an pg.length cn] 51)).alloc (.cells #[] 3)).heap.size := by simp
  obtain ⟨P, hP⟩ : ∃ P, PF.grow pg may [] = P := ⟨_, rfl⟩
  rw [hP] at hpg ⊢
  have HP0 : Hid (PF.grow pg may [] = P) := hP
  clear hR hM k0 k1 e0 l0 hP
  go_enter Try.func26, Try.ntmps26
  go_wp2_with (at_builtin; refine Q1.append_rows rfl (.tmp 16) (.tmp 18) rfl B1 an cn pg (by rfl) (by rfl) R1 (by omega) hsz1 ?_; intro a2 c2 w2 f2 l2)
  have f2' : IBuf (w.heap.size + 1) w2 a2 (PF.grow pg (may.take 0) []).length c2 (PF.grow pg (may.take 0) []) := by simpa [PF.grow] using f2
  have M2 := n1.trans l2
  clear f2 l2 n1 B1 R1 c3 hsz1
  go_loopw [10, 11] (fun p i w' => ∃ (j : Nat) (a' : Option Addr) (cap' : Nat), j ≤ may.length ∧ i = .int .i64 j ∧ p = .slice a' (PF.grow pg (may.take j) []).length cap' ∧ IBuf (w.heap.size + 1) w' a' (PF.grow pg (may.take j) []).length cap' (PF.grow pg (may.take j) []) ∧ Below (w.heap.size + 1) (w.alloc (.cells #[.int .i64 k, .int .i64 o, .int .i64 s, .slice an pg.length cn] 51)) w') (fun _ i _ => may.length - (intOf i).toNat)
  case atStart => exact ⟨0, a2, c2, Nat.zero_le _, rfl, by simp [PF.grow], f2', M2⟩
  case round =>
    obtain ⟨j, a3, c3, hj, rfl, rfl, hbf, hbel⟩ := hrel
    clear f2' M2
    have hgl := PF.grow_len (may.take j) [] pg
    have htl : (may.take j).length ≤ may.length := by simp; omega
    by_cases hlt : j < may.length
    · obtain ⟨b, off, rfl, hlt0, hc⟩ := (HM.out _ (HB.out _ hbel).1).get hlt
      have y1 := hc j hlt
      have hsu := PF.grow_succ pg may [] j hlt
      obtain ⟨z, ez⟩ : ∃ z, may.getD j 0 = z := ⟨_, rfl⟩
      rw [ez] at y1 hsu
      obtain ⟨acc, ea⟩ : ∃ acc, PF.grow pg (may.take j) [] = acc := ⟨_, rfl⟩
      rw [ea] at hbf hsu hgl ⊢
      have HS : Hid (PF.grow pg (may.take (j + 1)) [] = PF.add1 [] acc z) := hsu
      have e1 : (0 : Int) ≤ (j : Int) := by omega
      have e2 : (j : Int) < (may.length : Int) := by omega
      have R3 := hbf.own.row
      have hB := (Nat.le_trans (Nat.le_of_eq (by simp : w.heap.size + 1 = (w.alloc (.cells #[.int .i64 k, .int .i64 o, .int .i64 s, .slice an pg.length cn] 51)).heap.size)) hbel.size)
      clear ez ea hc hsu hpg HM
      by_cases hb2 : P0.has acc z = true
      · have hc2 : Hid (∀ W, P0.Row W a3 acc → Calls Try.prog 40 #[.slice a3 acc.length c3, .int .i64 z] W fun e w' => e = .returned (.bool true) ∧ w' = W) := fun W hW => by
          have := N2.hasRow a3 c3 acc z W (by omega) hW
          rwa [hb2] at this
        have HG : Hid (PF.add1 [] acc z = acc) := by
          show PF.add1 [] acc z = acc
          rw [PF.add1, hb2, Bool.or_true, if_pos rfl]
        clear hb2
        go_wp2_with (go_at_call 40; refine (hc2.out _ R3).mono ?_; rintro e w4 ⟨rfl, hw4⟩; subst w4)
        go_roundw
        case rel => exact ⟨j + 1, a3, c3, by omega, by go_num, by rw [HS.out, HG.out], by rw [HS.out, HG.out]; exact hbf, hbel⟩
        case measure => simp [intOf]; omega
      · have hb2' : P0.has acc z = false := by simpa using hb2
        have hc2 : Hid (∀ W, P0.Row W a3 acc → Calls Try.prog 40 #[.slice a3 acc.length c3, .int .i64 z] W fun e w' => e = .returned (.bool false) ∧ w' = W) := fun W hW => by
          have := N2.hasRow a3 c3 acc z W (by omega) hW
          rwa [hb2'] at this
        have HG : Hid (PF.add1 [] acc z = acc ++ [z]) := by
          show PF.add1 [] acc z = acc ++ [z]
          rw [PF.add1, hb2']
          rfl
        clear hb2 hb2'
        go_wp2_with (first
          | (go_at_call 40; refine (hc2.out _ R3).mono ?_; rintro e w4 ⟨rfl, hw4⟩; subst w4)
          | (at_builtin; refine J0.append_int rfl (.tmp 33) (.tmp 38) rfl hbf z (by rfl) (by rfl) (by omega) hB ?_; intro g5 c5 w5 f5 l5))
        go_roundw
        case rel => exact ⟨j + 1, some ⟨g5, 0, none⟩, c5, by omega, by go_num, by rw [HS.out, HG.out]; simp, by rw [HS.out, HG.out, List.length_append]; exact f5, hbel.trans l5⟩
        case measure => simp [intOf]; omega
    · obtain rfl : j = may.length := by omega
      rw [List.take_length] at hbf hgl ⊢
      obtain ⟨hb0, kb0⟩ := HB.out _ hbel
      rw [HP0.out] at hbf hgl ⊢
      clear HP0 HM HB hlt hj
      obtain ⟨wc, hwc⟩ : ∃ wc, wc = wr := ⟨_, rfl⟩
      subst hwc
      have hfit := hbf.fits
      have hsz : w.heap.size + 1 ≤ wc.heap.size := kb0.lt
      have hown := hbf.own
      have rowP := hbf.own.row
      have hnd : Hid (∀ W, Calls Try.prog 41 #[.int .i64 (data.size : Int)] W fun e w' => e = .returned (.int .i64 (P0.need data.size)) ∧ w' = W) := fun W => need_any _ W (by omega) (by omega)
      obtain ⟨q, hq⟩ : ∃ q : Nat, P0.need data.size = (q : Int) := ⟨(P0.need data.size).toNat, by unfold P0.need; omega⟩
      have hqt : (P0.need data.size).toNat = q := by omega
      have hq192 : data.size ≤ 192 → q ≤ 6 := by unfold P0.need at hq; omega
      have hq32 : data.size ≤ q * 32 ∧ (q : Int) * 32 < data.size + 32 := by unfold P0.need at hq; omega
      rw [hq] at hnd
      by_cases g1 : data.size ≤ 192
      · by_cases g2 : q ≤ P.length
        · have hf := PF.fits_yes (pages := P) g1 (by omega)
          have d1 : decide ((192 : Int) < (data.size : Int)) = false := by simp; omega
          have d2 : decide (P.length < q) = false := by simp; omega
          have d3 : decide ((P.length : Int) < (q : Int)) = false := by simp; omega
          have g3 : (q : Int) ≤ (c3 : Int) := by omega
          have g4 : (0 : Int) ≤ (q : Int) := by omega
          have hq6 := hq192 g1
          have hz0 : B4.zeros ((q : Int) * 32 - (data.size : Int)) = B4.nulls (q * 32 - data.size) := by
            rw [B4.zeros, if_pos (by omega), show ((q : Int) * 32 - (data.size : Int)).toNat = q * 32 - data.size by omega]
          obtain ⟨N, hN⟩ : ∃ N, B4.nulls (q * 32 - data.size) = N := ⟨_, rfl⟩
          have hNs : N.size = q * 32 - data.size := by rw [← hN]; exact B4.nulls_size _
          have hZ : Hid (∀ W, Calls Try.prog 42 #[.int .i64 ((q : Int) * 32 - (data.size : Int))] W fun e w' => e = .returned (.string N) ∧ w' = W) := fun W => by
            have := B4.spec_Zeros ((q : Int) * 32 - (data.size : Int)) W
            rwa [hz0, hN] at this
          have hsum : data.size + N.size ≤ 9223372036854775807 := by omega
          have HPg : Hid (∀ j, j < q → ∀ W, Calls Try.prog 43 #[.string (data ++ N), .int .i64 (j : Int)] W fun e w' => e = .returned (.string (PF.pageText data j)) ∧ w' = W) := fun j hj W => by
            have h := page_any (data ++ N) j W (by rw [ByteArray.size_append]; omega) (by omega)
            rw [← hN, PF.page_eq data j q (by omega) (by omega) hq32.1] at h
            rw [← hN]
            exact h
          have hu : Hid (∀ j, PF.pagePuts P data (j + 1) = PF.pagePuts P data j ++ [(P.getD j 0 * 32, PF.pageText data j)]) := fun j => PF.pagePuts_succ P data j
          have HA : Hid (∀ a c w', PBuf wc.heap.size w' a (q + 1) c (PF.pagePuts P data q ++ [(L1.recAt ino, R0.putI k o data.size (P.take q))]) → Below w.heap.size w w' → Ans (PF.puts ino k o P data) (PF.fitsIn P data) w (.returned (.tuple #[.slice a (q + 1) c, .bool true])) w') := fun a c w' h hb => by
            have hl := h.1
            rw [PF.puts_yes hf, hf]
            have HZ : PF.allPuts ino k o P data = PF.pagePuts P data q ++ [(L1.recAt ino, R0.putI k o data.size (P.take q))] := by rw [PF.allPuts, hqt]
            rw [HZ]
            refine ⟨a, c, by rw [← hl], h.own.mono (by omega), by rw [← hl]; exact h.fits, hb⟩
          have htk : (P.take q).length = q := by simp; omega
          have hri : Hid (∀ W, P0.Row W a3 (P.take q) → Calls Try.prog 45 #[I0.val k o data.size a3 q c3] W fun e w' => e = .returned (.string (R0.putI k o data.size (P.take q))) ∧ Below W.heap.size W w') := fun W hW => by
            have := R2.spec_PutInode k o data.size a3 c3 (P.take q) W (by omega) (by omega) hW
            rwa [htk] at this
          have p0 := PQ.pbuf_made (base := wc.heap.size) wc (Nat.le_refl _)
          have n0 := K0.below_new wc (.cells #[] 45)
          have HP : Hid (∀ W, Below wc.heap.size wc W → P0.Row W a3 P ∧ K0.Blk w.heap.size [.int .i64 k, .int .i64 o, .int .i64 s, .slice an pg.length cn] W ∧ Below w.heap.size w W) := fun W hW => ⟨rowP.below hW, kb0.below hW, hb0.trans (hW.mono (by omega))⟩
          clear hq hqt hq192 hq32 hf g1 hN hNs hz0 htk hbf hbel hgl rowP kb0 hb0
          go_wp2_with (first
            | (go_at_call 41; refine (hnd.out _).mono ?_; rintro e w4 ⟨rfl, hw4⟩; subst w4)
            | (go_at_call 42; refine (hZ.out _).mono ?_; rintro e w5 ⟨rfl, hw5⟩; subst w5))
          go_loopw [13, 15] (fun p i w' => ∃ (j : Nat) (a' : Option Addr) (cap' : Nat), j ≤ q ∧ i = .int .i64 j ∧ p = .slice a' j cap' ∧ PBuf wc.heap.size w' a' j cap' (PF.pagePuts P data j) ∧ Below wc.heap.size wc w') (fun _ i _ => q - (intOf i).toNat)
          case atStart => exact ⟨0, _, 0, Nat.zero_le _, rfl, rfl, p0, n0⟩
          case round =>
            obtain ⟨j, a6, c6, hj, rfl, rfl, hpb, hbe⟩ := hrel
            clear p0 n0 hnd hZ
            by_cases hlt : j < q
            · obtain ⟨b, off, rfl, hlt0, hc⟩ := (HP.out _ hbe).1.get (k := j) (by omega)
              have y1 := hc j (by omega)
              have hz := hpg (P.getD j 0) (N0.getD_mem (by omega))
              have HU := hu.out j
              have hpc := HPg.out j hlt
              obtain ⟨z, ez⟩ : ∃ z, P.getD j 0 = z := ⟨_, rfl⟩
              rw [ez] at y1 hz HU
              have HU' : Hid (PF.pagePuts P data (j + 1) = PF.pagePuts P data j ++ [(z * 32, PF.pageText data j)]) := HU
              have hpc' : Hid (∀ W, Calls Try.prog 43 #[.string (data ++ N), .int .i64 (j : Int)] W fun e w' => e = .returned (.string (PF.pageText data j)) ∧ w' = W) := hpc
              have e1 : (0 : Int) ≤ (j : Int) := by omega
              have e2 : (j : Int) < (P.length : Int) := by omega
              have hB := hbe.size
              have hwz : IntKind.i64.wrap (z * 32) = z * 32 := by rw [IntKind.wrap_i64]; omega
              have hb1 : b < wc.heap.size ∨ b < wr.heap.size := Or.inr hlt0
              have S0 : wr.drew.cell? ⟨b, off + j, none⟩ = some (.int .i64 z) := y1
              have S1 : (wr.drew.alloc (.cells #[.int .i64 (z * 32), .string (PF.pageText data j)] 45)).cell? ⟨b, off + j, none⟩ = some (.int .i64 z) := ((K0.below_new wr.drew (.cells #[.int .i64 (z * 32), .string (PF.pageText data j)] 45)).cell (p := ⟨b, off + j, none⟩) hlt0).trans S0
              have S2 : (wr.alloc (.cells #[.int .i64 (z * 32), .string (PF.pageText data j)] 45)).drew.cell? ⟨b, off + j, none⟩ = some (.int .i64 z) := S1
              have hpb0 : PBuf wc.heap.size wr.drew a6 j c6 (PF.pagePuts P data j) := ⟨hpb.1, hpb.2⟩
              have HC : Hid (∀ W, Below wc.heap.size wc W → W.cell? ⟨b, off + j, none⟩ = some (.int .i64 z)) := fun W hW => by
                rcases (HP.out W hW).1.get (k := j) (by omega) with ⟨b', off', hab, _, hc'⟩
                cases hab
                rw [← ez]
                exact hc' j (by omega)
              clear ez hc hpg HU hu HPg hri HA HP hpc hb1
              go_wp2
              go_region_held3 (fun W => W.cell? ⟨b, off + j, none⟩ = some (.int .i64 z)) (assumption) ((first
                | (go_at_call 43; refine (hpc'.out _).mono ?_; rintro e w7 ⟨rfl, hw7⟩; subst w7)
                | (refine step_put rfl (.tmp 67) (.tmp 77) rfl hpb0 (z * 32) (PF.pageText data j) (by rfl) (H := wr.heap.size) rfl (by rfl) (by omega) hB ?_; intro g8 c8 w8 pb8 b8; have be8 := hbe.drew.trans b8; have S8 : w8.cell? ⟨b, off + j, none⟩ = some (.int .i64 z) := HC.out _ be8)))
              all_goals
                go_wp2
                go_roundw
                case rel => exact ⟨j + 1, some ⟨g8, 0, none⟩, c8, by omega, by go_num, rfl, by rw [HU'.out]; exact pb8, be8⟩
                case measure => simp [intOf]; omega
            · obtain rfl : j = q := by omega
              obtain ⟨rP, kB, M3⟩ := HP.out _ hbe
              have z2 := kB.c2
              have g2' := kB.f2
              have z3 := kB.c3
              have g3' := kB.f3
              have hwlt : w.heap.size < wc.heap.size := hsz
              have k5 := (kB.set 2 (.int .i64 (data.size : Int))).set 3 (.slice a3 j c3)
              simp only [List.set_cons_zero, List.set_cons_succ] at k5
              have M5 := (M3.setCell (p := ⟨w.heap.size, 2, none⟩) (Nat.le_refl _) (.int .i64 (data.size : Int))).setCell (p := ⟨w.heap.size, 3, none⟩) (Nat.le_refl _) (.slice a3 j c3)
              have pb5 : PBuf wc.heap.size ((wr.setCell ⟨w.heap.size, 2, none⟩ (.int .i64 (data.size : Int))).setCell ⟨w.heap.size, 3, none⟩ (.slice a3 j c3)) a6 j c6 (PF.pagePuts P data j) := ⟨hpb.1, ownsRow_setCell_other (ownsRow_setCell_other hpb.2 (a := ⟨w.heap.size, 2, none⟩) (fun e => by have := (hpb.2.lt _ e).1; simp only at this; omega) _) (a := ⟨w.heap.size, 3, none⟩) (fun e => by have := (hpb.2.lt _ e).1; simp only at this; omega) _⟩
              have rP5 : P0.Row ((wr.setCell ⟨w.heap.size, 2, none⟩ (.int .i64 (data.size : Int))).setCell ⟨w.heap.size, 3, none⟩ (.slice a3 j c3)) a3 (P.take j) := by
                have hO := hown
                rcases hO with h0 | ⟨g, hg, hgb, hgk⟩
                · subst h0
                  exact Or.inl (by simp)
                · have hgk' := ((hgk.below hbe).setOther (B' := w.heap.size) (by omega) 2 (.int .i64 (data.size : Int))).setOther (B' := w.heap.size) (by omega) 3 (.slice a3 j c3)
                  have hrt := row_take (I2.row_of_blk hgk') j g2
                  rw [← hg] at hrt
                  exact hrt
              have hsz5 : wc.heap.size ≤ ((wr.setCell ⟨w.heap.size, 2, none⟩ (.int .i64 (data.size : Int))).setCell ⟨w.heap.size, 3, none⟩ (.slice a3 j c3)).heap.size := by
                have := hbe.size
                simpa [World.setCell] using this
              clear hu HPg HP hpb hbe rP kB M3 hpg hown
              go_wp2
              obtain ⟨w5, hw5⟩ : ∃ w5, (wr.setCell ⟨w.heap.size, 2, none⟩ (.int .i64 (data.size : Int))).setCell ⟨w.heap.size, 3, none⟩ (.slice a3 j c3) = w5 := ⟨_, rfl⟩
              rw [hw5] at k5 M5 pb5 rP5 hsz5 ⊢
              clear hw5 z2 g2' z3 g3'
              have S0 : w5.drew.cell? ⟨w.heap.size, 0, none⟩ = some (.int .i64 k) ∧ w5.drew.cell? ⟨w.heap.size, 1, none⟩ = some (.int .i64 o) ∧ w5.drew.cell? ⟨w.heap.size, 2, none⟩ = some (.int .i64 (data.size : Int)) ∧ w5.drew.cell? ⟨w.heap.size, 3, none⟩ = some (.slice a3 j c3) := ⟨k5.c0, k5.c1, k5.c2, k5.c3⟩
              go_region_held3 (fun W => W.cell? ⟨w.heap.size, 0, none⟩ = some (.int .i64 k) ∧ W.cell? ⟨w.heap.size, 1, none⟩ = some (.int .i64 o) ∧ W.cell? ⟨w.heap.size, 2, none⟩ = some (.int .i64 (data.size : Int)) ∧ W.cell? ⟨w.heap.size, 3, none⟩ = some (.slice a3 j c3)) (assumption) ((first
                | (go_at_call 44; refine (L1.spec_RecAt ino _).mono ?_; rintro e w6 ⟨rfl, hw6⟩; subst w6)
                | (go_at_call 45; refine (hri.out _ (rP5.drew)).mono ?_; rintro e w7 ⟨rfl, b7⟩; have pb7 : PBuf wc.heap.size w7 a6 j c6 (PF.pagePuts P data j) := (PBuf.below (w := w5.drew) ⟨pb5.1, pb5.2⟩ b7); have k7 := k5.drew.below b7; have M7 := M5.drew.trans (b7.mono M5.drew.size); have hs7 : wc.heap.size ≤ w7.heap.size := Nat.le_trans hsz5 b7.size; have S7 : w7.cell? ⟨w.heap.size, 0, none⟩ = some (.int .i64 k) ∧ w7.cell? ⟨w.heap.size, 1, none⟩ = some (.int .i64 o) ∧ w7.cell? ⟨w.heap.size, 2, none⟩ = some (.int .i64 (data.size : Int)) ∧ w7.cell? ⟨w.heap.size, 3, none⟩ = some (.slice a3 j c3) := ⟨k7.c0, k7.c1, k7.c2, k7.c3⟩; have k7a := k7.below (K0.below_new w7 (.cells #[.int .i64 (L1.recAt ino), .string (R0.putI k o data.size (P.take j))] 45)); have S7a : (w7.alloc (.cells #[.int .i64 (L1.recAt ino), .string (R0.putI k o data.size (P.take j))] 45)).cell? ⟨w.heap.size, 0, none⟩ = some (.int .i64 k) ∧ (w7.alloc (.cells #[.int .i64 (L1.recAt ino), .string (R0.putI k o data.size (P.take j))] 45)).cell? ⟨w.heap.size, 1, none⟩ = some (.int .i64 o) ∧ (w7.alloc (.cells #[.int .i64 (L1.recAt ino), .string (R0.putI k o data.size (P.take j))] 45)).cell? ⟨w.heap.size, 2, none⟩ = some (.int .i64 (data.size : Int)) ∧ (w7.alloc (.cells #[.int .i64 (L1.recAt ino), .string (R0.putI k o data.size (P.take j))] 45)).cell? ⟨w.heap.size, 3, none⟩ = some (.slice a3 j c3) := ⟨k7a.c0, k7a.c1, k7a.c2, k7a.c3⟩)
                | (refine step_put rfl (.tmp 86) (.tmp 92) rfl pb7 (L1.recAt ino) (R0.putI k o data.size (P.take j)) (by rfl) (H := w7.heap.size) rfl (by rfl) (by omega) hs7 ?_; intro g8 c8 w8 pb8 b8; have M8 := M7.trans (b8.mono (by omega)); have k8 := J0.blk_keep k7 b8 hwlt; have S8 : w8.cell? ⟨w.heap.size, 0, none⟩ = some (.int .i64 k) ∧ w8.cell? ⟨w.heap.size, 1, none⟩ = some (.int .i64 o) ∧ w8.cell? ⟨w.heap.size, 2, none⟩ = some (.int .i64 (data.size : Int)) ∧ w8.cell? ⟨w.heap.size, 3, none⟩ = some (.slice a3 j c3) := ⟨k8.c0, k8.c1, k8.c2, k8.c3⟩)))
              all_goals
                go_wp2
                go_ret2
                exact HA.out _ _ _ pb8 M8
        · have hf := PF.fits_no2 (data := data) (pages := P) (by omega)
          have g2' : (P.length : Int) < (q : Int) := by omega
          have M9 := hb0.alloc hb0.size (.cells #[] 45)
          have HN : Hid (∀ a c w', Below w.heap.size w w' → Ans (PF.puts ino k o P data) (PF.fitsIn P data) w (.returned (.tuple #[.slice a 0 c, .bool false])) w') := fun a c w' hb => by
            rw [PF.puts_no hf, hf]
            exact ans_no hb
          clear hf hq hqt hq192 hq32 hbf
          go_wp2_with (go_at_call 41; refine (hnd.out _).mono ?_; rintro e w4 ⟨rfl, hw4⟩; subst w4)
          go_ret2
          exact HN.out _ _ _ M9
      · have hf := PF.fits_no1 (pages := P) g1
        have g1' : (192 : Int) < (data.size : Int) := by omega
        have M9 := hb0.alloc hb0.size (.cells #[] 45)
        have HN : Hid (∀ a c w', Below w.heap.size w w' → Ans (PF.puts ino k o P data) (PF.fitsIn P data) w (.returned (.tuple #[.slice a 0 c, .bool false])) w') := fun a c w' hb => by
          rw [PF.puts_no hf, hf]
          exact ans_no hb
        clear hf hq hqt hq192 hq32 hbf
        go_wp2_with (go_at_call 41; refine (hnd.out _).mono ?_; rintro e w4 ⟨rfl, hw4⟩; subst w4)
        go_ret2
        exact HN.out _ _ _ M9
end Go.Proofs.Ytkdjcbmmbjongaa.SY

/- The contract of spec.PutFile, as the given laws call it. -/
namespace Go.Proofs.Ytkdjcbmmbjongaa.SG
open Go.ChangeShapes Go.WideShapes Go.ChangeAt Go.RowKit
set_option linter.unusedVariables false
set_option linter.unusedSimpArgs false
set_option maxRecDepth 10000

open N0 (Ln)
open N1 (Sl Lists Fit LB lb_new)
open I0 (val)
open J0 (Own IBuf)
open I2 (ints)
open SW (stOk)
open SQ (Ans)
open SF (mayHave allOf fileZ fileOk file_yes file_no st_facts may_facts)

variable {base n cap : Nat} {a : Option Addr} {w W : World} {zs : List Int}

theorem run_rows (ty : TypeId) (hbuf : IBuf base w a n cap zs) (ax : Option Addr) (cx : Nat) (xs : List Int) (hR : P0.Row w ax xs) (hlen : n + xs.length ≤ 4194304) (hb : base ≤ w.heap.size) :
    ∃ a' cap' w', (Builtin.append_ #[29, 29] ty #[.slice a n cap, .slice ax xs.length cx]).run Try.prog w = .ok (.slice a' (n + xs.length) cap') w' ∧ IBuf base w' a' (n + xs.length) cap' (zs ++ xs) ∧ Below base w w' := by
  obtain ⟨i0, hi, hz0, hz1, hz2⟩ := info_parts I2.info3
  by_cases h0 : xs = []
  · subst h0
    exact ⟨a, cap, w, Q1.run_append_none w 29 _ 3 i0 Try.underlying29 hi a n cap hbuf.fits ax cx, by rw [List.append_nil]; exact hbuf, Below.refl _ _⟩
  · rcases hR with hR | ⟨b, off, rfl, hb2, hc⟩
    · exact absurd hR h0
    · have hm : 0 < xs.length := List.length_pos_iff.2 h0
      obtain ⟨g, cp, w', hrun, r1, r2, r3, r4⟩ := run_append_lies (P := Try.prog) w 29 ty base 3 i0 (.int .i64 0) 1 8 Try.underlying29 hi hz0 hz1 hz2 rfl (by omega) _ n _ hbuf.2 ⟨b, off, none⟩ xs.length cx (ints xs) (by simp) (by
        intro j u hj
        have hj' : j < xs.length := by
          have := (List.getElem?_eq_some_iff.1 hj).1
          simpa using this
        rw [B0.add_off, hc j hj', P0.getD_get _ _ hj', ← hj]
        simp [hj']) (Q1.ints_one xs) hm (by unfold maxLen; omega) (by omega) hb _ rfl
      refine ⟨some ⟨g, 0, none⟩, cp, w', hrun, ⟨by rw [hbuf.1]; simp, ?_⟩, F0.below_grown (Below.refl _ _) r2 (J0.own_block hbuf) hb⟩
      rw [show ints (zs ++ xs) = ints zs ++ ints xs by simp]
      exact r1

/-- 'append(list, others...)' as a step of a region that draws its order. -/
theorem step_rows {ops : Array Oper} {o : Oper} {A : Act} {K : Act → World → Prop} {Q : Exit → Act → World → Prop} {E : Prop} (hgd : o.guard = none) (sl x : Operand)
    (ho : o.op = .call { callee := .builtin .append, args := #[sl, x], argTypes := #[29, 29] })
    (hbuf : IBuf base w a n cap zs) (ax : Option Addr) (cx : Nat) (xs : List Int) (hs : A.eval sl = .slice a n cap) (hx : A.eval x = .slice ax xs.length cx) (hR : P0.Row w ax xs) (hlen : n + xs.length ≤ 4194304) (hb : base ≤ w.heap.size)
    (h : ∀ a' cap' w', IBuf base w' a' (n + xs.length) cap' (zs ++ xs) → Below base w w' → K (A.put o.dst (.slice a' (n + xs.length) cap')) w') :
    if Region.wanted o (yielded ops A.tmps) = true then Oper.wp Try.prog o A w K Q else E := by
  have hw : Region.wanted o (yielded ops A.tmps) = true := by simp [Region.wanted, hgd]
  rw [if_pos hw]
  obtain ⟨a', cap', w', hrun, r1, r2⟩ := run_rows o.type hbuf ax cx xs hR hlen hb
  exact Lib.wp_append_run _ sl x 29 29 ho _ _ hs hx _ _ hrun (h a' cap' w' r1 r2)

set_option maxHeartbeats 4000000 in
theorem spec_PutFile (d : Ln) (s : Sl) (mem data : ByteArray) (w : World) (hs : mem.size ≤ 281474976710656) (hd : data.size ≤ 281474976710656) (hF : Fit d s) (hpo : d.po.length ≤ 1048576) (hfr : d.fr.length ≤ 1048576) (hR : Lists w d s) :
    Calls Try.prog 11 #[N1.val d s, .string mem, .string data] w (Ans (fileZ d mem data) (fileOk d mem data) w) := by
  have l0 := K0.below_new w (.cells #[.int .i64 d.ino, .int .i64 d.cl, .int .i64 d.un, .string d.rc, .slice s.a1 d.pg.length s.c1, .string d.sav, .slice s.a2 d.po.length s.c2, .slice s.a3 d.fr.length s.c3] 35)
  have x0 := lb_new d s w 35
  have HL : Hid (∀ W, Below w.heap.size w W → Lists W d s) := fun W hb => hR.below hb
  have hst : Hid (∀ W, Lists W d s → Calls Try.prog 25 #[N1.val d s, .string mem, .int .i64 1] W (SW.Ans d mem d.ino 1 W)) := fun W h => SX.l07Inode d s mem 1 W hs hF hpo hfr h
  have L0 := HL.out _ l0
  clear hR
  by_cases hk : stOk d mem d.ino 1 = true
  · obtain ⟨fo, fz⟩ := file_yes (data := data) hk
    obtain ⟨hm, hl, hI, hK⟩ := st_facts hk
    obtain ⟨g6, g10, g1000, gpg⟩ := may_facts (mem := mem) [] hl hI
    obtain ⟨-, -, -, -, -, -, hp6, hp4, -, -, -, -, -⟩ := N0.loanOk_is hl
    rw [fo, fz]
    have hst' : Hid (∀ W, Lists W d s → Calls Try.prog 25 #[N1.val d s, .string mem, .int .i64 1] W fun e w' => ∃ (o t : Int) (a : Option Addr) (c : Nat), e = .returned (.tuple #[val 1 o t a (G0.gZ (O0.recd mem d.ino)).length c, .bool true]) ∧ Below W.heap.size W w' ∧ o = G0.gO (O0.recd mem d.ino) ∧ Own W.heap.size w' a (G0.gZ (O0.recd mem d.ino)) ∧ (G0.gZ (O0.recd mem d.ino)).length ≤ c) := fun W h => (hst.out W h).mono fun e w' ⟨k, o, t, a, n, c, he, hb, hy⟩ => by
      obtain ⟨r1, r2, r3, r4, r5, r6⟩ := hy hk
      subst r1 r4
      exact ⟨o, t, a, c, by rw [he, hk], hb, r2, r5, r6⟩
    clear hst hk hm hl hI hK fo fz
    obtain ⟨Z, hZ⟩ : ∃ Z, G0.gZ (O0.recd mem d.ino) = Z := ⟨_, rfl⟩
    have HM : mayHave d mem [] = PF.grow Z (d.pg ++ d.po) [] := by rw [mayHave, hZ]
    have HD : Hid (∀ (t : Int) (an : Option Addr) (cn : Nat) W am cm, P0.Row W an Z → P0.Row W am (d.pg ++ d.po) → Calls Try.prog 26 #[.int .i64 d.ino, val 1 (G0.gO (O0.recd mem d.ino)) t an Z.length cn, .slice am (d.pg.length + d.po.length) cm, .string data] W (Ans (allOf d mem 1 [] data) (PF.fitsIn (mayHave d mem []) data) W)) := fun t an cn W am cm h1 h2 => by
      have := SY.l07Write d.ino 1 (G0.gO (O0.recd mem d.ino)) t an am cn cm Z (d.pg ++ d.po) data W hd (by rw [← hZ]; omega) (by omega) (by rw [← HM]; exact gpg) h1 h2
      rw [List.length_append, ← HM] at this
      exact this
    rw [hZ] at hst'
    obtain ⟨O, hO⟩ : ∃ O, G0.gO (O0.recd mem d.ino) = O := ⟨_, rfl⟩
    rw [hO] at hst' HD
    clear hZ hO HM g6 g10 g1000 gpg
    go_enter Try.func11, Try.ntmps11
    go_wp2_with (go_at_call 25; refine (hst'.out _ L0).mono ?_; rintro e w3 ⟨o3, t3, a3, c3, rfl, b3, ho3, own3, q3⟩; subst o3; have l3 := l0.trans (b3.mono l0.size); have x3 := x0.below b3)
    have n4 := K0.below_new w3 (.cells #[.int .i64 1, .int .i64 O, .int .i64 t3, .slice a3 Z.length c3] 51)
    have y4 := K0.blk_new [.int .i64 1, .int .i64 O, .int .i64 t3, .slice a3 Z.length c3] w3 51
    have l4 := l3.trans (n4.mono l3.size)
    have x4 := x3.below n4
    have o4 := own3.below n4
    obtain ⟨w4, hw4⟩ : ∃ w4, w3.alloc (.cells #[.int .i64 1, .int .i64 O, .int .i64 t3, .slice a3 Z.length c3] 51) = w4 := ⟨_, rfl⟩
    obtain ⟨N, hN⟩ : ∃ N, w3.heap.size = N := ⟨_, rfl⟩
    rw [hw4] at l4 x4 o4 y4 ⊢
    rw [hN] at y4 ⊢
    clear hw4 hN n4
    have S4 : w4.drew.cell? ⟨w.heap.size, 0, none⟩ = some (.int .i64 d.ino) ∧ w4.drew.cell? ⟨w.heap.size, 4, none⟩ = some (.slice s.a1 d.pg.length s.c1) ∧ w4.drew.cell? ⟨w.heap.size, 6, none⟩ = some (.slice s.a2 d.po.length s.c2) ∧ w4.drew.cell? ⟨N, 0, none⟩ = some (.int .i64 1) ∧ w4.drew.cell? ⟨N, 1, none⟩ = some (.int .i64 O) ∧ w4.drew.cell? ⟨N, 2, none⟩ = some (.int .i64 t3) ∧ w4.drew.cell? ⟨N, 3, none⟩ = some (.slice a3 Z.length c3) := ⟨x4.c0, x4.c4, x4.c6, y4.c0, y4.c1, y4.c2, y4.c3⟩
    have n5 := (K0.below_new w4 (.cells #[] 3)).drew
    have x5 := x4.below n5
    have y5 := y4.below n5
    have l5 := l4.trans (n5.mono l4.size)
    have o5 := o4.below n5
    have S5 : (w4.alloc (.cells #[] 3)).drew.cell? ⟨w.heap.size, 0, none⟩ = some (.int .i64 d.ino) ∧ (w4.alloc (.cells #[] 3)).drew.cell? ⟨w.heap.size, 4, none⟩ = some (.slice s.a1 d.pg.length s.c1) ∧ (w4.alloc (.cells #[] 3)).drew.cell? ⟨w.heap.size, 6, none⟩ = some (.slice s.a2 d.po.length s.c2) ∧ (w4.alloc (.cells #[] 3)).drew.cell? ⟨N, 0, none⟩ = some (.int .i64 1) ∧ (w4.alloc (.cells #[] 3)).drew.cell? ⟨N, 1, none⟩ = some (.int .i64 O) ∧ (w4.alloc (.cells #[] 3)).drew.cell? ⟨N, 2, none⟩ = some (.int .i64 t3) ∧ (w4.alloc (.cells #[] 3)).drew.cell? ⟨N, 3, none⟩ = some (.slice a3 Z.length c3) := ⟨x5.c0, x5.c4, x5.c6, y5.c0, y5.c1, y5.c2, y5.c3⟩
    have B5 : IBuf w4.heap.size (w4.alloc (.cells #[] 3)).drew (some ⟨w4.heap.size, 0, none⟩) 0 0 [] := (J0.ibuf_made (base := w4.heap.size) w4 (Nat.le_refl _)).drew
    have hsz5 : w4.heap.size ≤ (w4.alloc (.cells #[] 3)).drew.heap.size := n5.size
    have ls5 := HL.out _ l5
    go_region_held3 (fun W => W.cell? ⟨w.heap.size, 0, none⟩ = some (.int .i64 d.ino) ∧ W.cell? ⟨w.heap.size, 4, none⟩ = some (.slice s.a1 d.pg.length s.c1) ∧ W.cell? ⟨w.heap.size, 6, none⟩ = some (.slice s.a2 d.po.length s.c2) ∧ W.cell? ⟨N, 0, none⟩ = some (.int .i64 1) ∧ W.cell? ⟨N, 1, none⟩ = some (.int .i64 O) ∧ W.cell? ⟨N, 2, none⟩ = some (.int .i64 t3) ∧ W.cell? ⟨N, 3, none⟩ = some (.slice a3 Z.length c3)) (assumption) ((first
      | (go_at_call 26; refine (HD.out t3 a3 c3 w7 a7 c7 o7.row f7.own.row).mono ?_; rintro e w8 ⟨a8, c8, rfl, o8, q8, b8⟩; have l8 := l7.trans (b8.mono l7.size); have x8 := x7.below b8; have y8 := y7.below b8; have S8 : w8.cell? ⟨w.heap.size, 0, none⟩ = some (.int .i64 d.ino) ∧ w8.cell? ⟨w.heap.size, 4, none⟩ = some (.slice s.a1 d.pg.length s.c1) ∧ w8.cell? ⟨w.heap.size, 6, none⟩ = some (.slice s.a2 d.po.length s.c2) ∧ w8.cell? ⟨N, 0, none⟩ = some (.int .i64 1) ∧ w8.cell? ⟨N, 1, none⟩ = some (.int .i64 O) ∧ w8.cell? ⟨N, 2, none⟩ = some (.int .i64 t3) ∧ w8.cell? ⟨N, 3, none⟩ = some (.slice a3 Z.length c3) := ⟨x8.c0, x8.c4, x8.c6, y8.c0, y8.c1, y8.c2, y8.c3⟩)
      | (have f6' := f6; refine step_rows rfl (.tmp 25) (.tmp 27) rfl f6 s.a2 s.c2 d.po (by simp [Act.eval, Act.put]) (by simp [Act.eval, Act.put]) ls6.r2 (by omega) hsz6 ?_; intro a7 c7 w7 f7 b7; have n7 := n6.trans (b7.mono (Nat.le_refl _)); have l7 := l6.trans (b7.mono l4.size); have x7 := x4.below n7; have y7 := y4.below n7; have o7 := o4.below n7; have S7 : w7.cell? ⟨w.heap.size, 0, none⟩ = some (.int .i64 d.ino) ∧ w7.cell? ⟨w.heap.size, 4, none⟩ = some (.slice s.a1 d.pg.length s.c1) ∧ w7.cell? ⟨w.heap.size, 6, none⟩ = some (.slice s.a2 d.po.length s.c2) ∧ w7.cell? ⟨N, 0, none⟩ = some (.int .i64 1) ∧ w7.cell? ⟨N, 1, none⟩ = some (.int .i64 O) ∧ w7.cell? ⟨N, 2, none⟩ = some (.int .i64 t3) ∧ w7.cell? ⟨N, 3, none⟩ = some (.slice a3 Z.length c3) := ⟨x7.c0, x7.c4, x7.c6, y7.c0, y7.c1, y7.c2, y7.c3⟩)
      | (refine step_rows rfl (.tmp 22) (.tmp 24) rfl B5 s.a1 s.c1 d.pg (by simp [Act.eval, Act.put]) (by simp [Act.eval, Act.put]) ls5.r1 (by omega) hsz5 ?_; intro a6 c6 w6 f6 b6; have n6 := n5.trans b6; have l6 := l5.trans (b6.mono l4.size); have x6 := x4.below n6; have y6 := y4.below n6; have o6 := o4.below n6; have ls6 := HL.out _ l6; have hsz6 := n6.size; have S6 : w6.cell? ⟨w.heap.size, 0, none⟩ = some (.int .i64 d.ino) ∧ w6.cell? ⟨w.heap.size, 4, none⟩ = some (.slice s.a1 d.pg.length s.c1) ∧ w6.cell? ⟨w.heap.size, 6, none⟩ = some (.slice s.a2 d.po.length s.c2) ∧ w6.cell? ⟨N, 0, none⟩ = some (.int .i64 1) ∧ w6.cell? ⟨N, 1, none⟩ = some (.int .i64 O) ∧ w6.cell? ⟨N, 2, none⟩ = some (.int .i64 t3) ∧ w6.cell? ⟨N, 3, none⟩ = some (.slice a3 Z.length c3) := ⟨x6.c0, x6.c4, x6.c6, y6.c0, y6.c1, y6.c2, y6.c3⟩)))
    all_goals
      go_wp2
      go_ret2
      exact ⟨a8, c8, rfl, o8.mono l7.size, q8, l8⟩
  · have hk' : stOk d mem d.ino 1 = false := by simpa using hk
    obtain ⟨fo, fz⟩ := file_no (data := data) hk'
    rw [fo, fz]
    have hst' : Hid (∀ W, Lists W d s → Calls Try.prog 25 #[N1.val d s, .string mem, .int .i64 1] W fun e w' => ∃ (k o t : Int) (a : Option Addr) (n c : Nat), e = .returned (.tuple #[val k o t a n c, .bool false]) ∧ Below W.heap.size W w') := fun W h => (hst.out W h).mono fun e w' ⟨k, o, t, a, n, c, he, hb, _⟩ => ⟨k, o, t, a, n, c, by rw [he, hk'], hb⟩
    clear hst hk hk' fo fz
    go_enter Try.func11, Try.ntmps11
    go_wp2_with (go_at_call 25; refine (hst'.out _ L0).mono ?_; rintro e w3 ⟨k3, o3, t3, a3, n3, c3, rfl, b3⟩; have l3 := l0.trans (b3.mono l0.size); have l4 := l3.alloc l3.size (.cells #[.int .i64 k3, .int .i64 o3, .int .i64 t3, .slice a3 n3 c3] 51); have l5 := l4.alloc l4.size (.cells #[] 45))
    go_ret2
    exact SQ.ans_no l5
end Go.Proofs.Ytkdjcbmmbjongaa.SG

/- What the exact laws over loans keep: the law's own loan, boxed, and a copy of it. -/
namespace Go.Proofs.Ytkdjcbmmbjongaa.N12
open Go.ChangeShapes Go.WideShapes Go.ChangeAt Go.RowKit
set_option linter.unusedVariables false
set_option linter.unusedSimpArgs false
set_option maxRecDepth 10000

open N0 (Ln)
open N1 (Sl Lists Fit FitM LB lb_new)
open N4 (at3 Cp)

/-- The law's loan in its box. -/
structure A (w : World) (d : Ln) (s : Sl) (W : World) : Prop where
  b : LB w.heap.size d s W
  l : Lists W d s
  bel : Below w.heap.size w W

variable {w W W' : World} {d : Ln} {s : Sl} {g1 g2 g3 B : Nat}

theorem A.below (h : A w d s W) (hb : Below W.heap.size W W') : A w d s W' := ⟨h.b.below hb, h.l.below hb, h.bel.trans (hb.mono h.bel.size)⟩
theorem A.drew (h : A w d s W) : A w d s W.drew := h.below ((Below.refl _ _).drew)

theorem a_new (w : World) (d : Ln) (s : Sl) (h : Lists w d s) : A w d s (w.alloc (.cells #[.int .i64 d.ino, .int .i64 d.cl, .int .i64 d.un, .string d.rc, .slice s.a1 d.pg.length s.c1, .string d.sav, .slice s.a2 d.po.length s.c2, .slice s.a3 d.fr.length s.c3] 31)) :=
  ⟨lb_new d s w 31, h.alloc _, K0.below_new _ _⟩

/-- Beside it a copy of it, boxed. -/
structure U (w : World) (d : Ln) (s : Sl) (g1 g2 g3 B : Nat) (W : World) : Prop where
  t : A w d s W
  n : LB B d (at3 d g1 g2 g3) W
  cp : Cp w.heap.size d g1 g2 g3 W

theorem U.below (h : U w d s g1 g2 g3 B W) (hb : Below W.heap.size W W') : U w d s g1 g2 g3 B W' := ⟨h.t.below hb, h.n.below hb, h.cp.below hb⟩
theorem U.drew (h : U w d s g1 g2 g3 B W) : U w d s g1 g2 g3 B W.drew := h.below ((Below.refl _ _).drew)

theorem cp_mono {b b' : Nat} (h : Cp b d g1 g2 g3 W) (hb : b' ≤ b) : Cp b' d g1 g2 g3 W := ⟨Nat.le_trans hb h.h1, Nat.le_trans hb h.h2, Nat.le_trans hb h.h3, h.k1, h.k2, h.k3⟩

theorem u_new {b : Nat} (h : A w d s W) (hc : Cp b d g1 g2 g3 W) (hb : w.heap.size ≤ b) :
    U w d s g1 g2 g3 W.heap.size (W.alloc (.cells #[.int .i64 d.ino, .int .i64 d.cl, .int .i64 d.un, .string d.rc, .slice (at3 d g1 g2 g3).a1 d.pg.length (at3 d g1 g2 g3).c1, .string d.sav, .slice (at3 d g1 g2 g3).a2 d.po.length (at3 d g1 g2 g3).c2, .slice (at3 d g1 g2 g3).a3 d.fr.length (at3 d g1 g2 g3).c3] 35)) :=
  ⟨h.below (K0.below_new _ _), lb_new d (at3 d g1 g2 g3) W 35, (cp_mono hc hb).below (K0.below_new _ _)⟩

theorem sizes (h : N3.total d ≤ 1048576) : d.pg.length ≤ 1048576 ∧ d.po.length ≤ 1048576 ∧ d.fr.length ≤ 1048576 ∧ d.rc.size ≤ 1048576 ∧ d.sav.size ≤ 1048576 := by
  unfold N3.total at h
  omega

theorem fitc (h : N3.total d ≤ 1048576) : Fit d (at3 d g1 g2 g3) := by
  have := sizes h
  exact ⟨by omega, by omega, by omega⟩
end Go.Proofs.Ytkdjcbmmbjongaa.N12

/- What a law over a loan that hands out a row keeps, in a seat without ranges. -/
namespace Go.Proofs.Ytkdjcbmmbjongaa.R5
open Go.ChangeShapes Go.WideShapes Go.ChangeAt Go.RowKit
set_option linter.unusedVariables false
set_option linter.unusedSimpArgs false
set_option maxRecDepth 10000

open I2 (ints)
open J0 (Own)
open M0 (marks part_length part_succ part_zero part_all marks_get grown_refl grown_set)
/-- A row of numbers marked from any number on. -/
theorem markAny (g c : Nat) (vs : List Value) (k0 : Nat) (w : World) (hn : vs.length ≤ 1048576) (h0 : k0 ≤ 1099511627776) (hb : K0.Blk g vs w) :
    Calls Try.prog 33 #[.slice (some ⟨g, 0, none⟩) vs.length c, .int .i64 (k0 : Int)] w fun e w' => e = .returned (.int .i64 ((k0 + vs.length : Nat) : Int)) ∧ w.grownBy w' (some g) := by
  go_enter Try.func33, Try.ntmps33
  go_wp2
  go_loopw [1, 5] (fun q i w' => ∃ (k : Nat) (us : List Value), k ≤ vs.length ∧ i = .int .i64 k ∧ q = .int .i64 ((k0 + k : Nat) : Int) ∧ us.length = vs.length ∧ K0.Blk g us w' ∧ w.grownBy w' (some g)) (fun _ i _ => vs.length - (intOf i).toNat)
  case atStart => exact ⟨0, vs, Nat.zero_le _, rfl, rfl, rfl, hb, grown_refl _ _⟩
  case round =>
    obtain ⟨k, us, hk, rfl, rfl, hul, hblk, hgr⟩ := hrel
    by_cases hlt : k < vs.length
    · have e1 : (0 : Int) ≤ (k : Int) := by omega
      have e2 : (k : Int) < (vs.length : Int) := by omega
      have x2 := hblk.cell k (by omega)
      have x3 := hblk.free k (by omega)
      obtain ⟨u, x4⟩ : ∃ u, wr.cell? ⟨g, k, none⟩ = some u := ⟨_, x2⟩
      have HB : Hid (K0.Blk g (us.set k (.int .i64 ((k0 + k : Nat) : Int))) (wr.setCell ⟨g, k, none⟩ (.int .i64 ((k0 + k : Nat) : Int)))) := hblk.set k _
      have HUL : Hid ((us.set k (.int .i64 ((k0 + k : Nat) : Int))).length = vs.length) := by show (us.set k _).length = _; rw [List.length_set]; exact hul
      clear x2 hblk hb hul
      go_wp2
      go_roundw
      case rel => exact ⟨k + 1, _, by omega, by go_num, by go_num, HUL.out, HB.out, grown_set hgr _⟩
      case measure => simp [intOf]; omega
    · obtain rfl : k = vs.length := by omega
      clear hb hblk hul
      go_wp2
      go_ret
      exact ⟨rfl, hgr⟩
end Go.Proofs.Ytkdjcbmmbjongaa.R5

namespace Go.Proofs.Ytkdjcbmmbjongaa.N15
open Go.ChangeShapes Go.WideShapes Go.ChangeAt Go.RowKit
set_option linter.unusedVariables false
set_option linter.unusedSimpArgs false
set_option maxRecDepth 10000

open N0 (Ln)
open N1 (Sl val vals Lists FitM LB lb_new)
open N4 (T t_new at3 Cp put8 other8 bel8)
open N12 (A)
open I2 (ints)

set_option maxHeartbeats 4000000 in
theorem toLoan (d : Ln) (s : Sl) (w : World) (hp : d.pg.length ≤ 1048576) (ho : d.po.length ≤ 1048576) (hf : d.fr.length ≤ 1048576) (hR : Lists w d s) :
    Calls Try.prog 12 #[val d s] w fun e w' => ∃ g1 g2 g3, e = .returned (val d (at3 d g1 g2 g3)) ∧ Cp w.heap.size d g1 g2 g3 w' ∧ g1 < g2 ∧ g2 < g3 ∧ Below w.heap.size w w' := by
  have t0 := t_new w d s
  have HL : Hid (∀ W, Below w.heap.size w W → Lists W d s) := fun W hb => hR.below hb
  have r0 := (HL.out _ t0.bel).r1
  clear hR
  go_enter Try.func12, Try.ntmps12
  go_wp2_with (first
    | (go_at_call 27; have q2' := q2; refine (I2.toIntS s.a3 s.c3 d.fr _ hf q2).mono ?_; rintro e w3 ⟨g3, rfl, hg3, k3, b3⟩; have n23 : g2 < g3 := (by have hq := (k2.setOther (B' := w.heap.size + 2) (by omega) 6 (.slice (some ⟨g2, 0, none⟩) d.po.length d.po.length)).lt; omega); have t3 := u2.below b3; have m1 := l2.below b3; have m2 := (k2.setOther (B' := w.heap.size + 2) (by omega) 6 (.slice (some ⟨g2, 0, none⟩) d.po.length d.po.length)).below b3; have z7 := t3.tmp.cell 7 (by simp); have y7 := t3.tmp.free 7 (by simp); have z0 := t3.tmp.cell 0 (by simp); have z1 := t3.tmp.cell 1 (by simp); have z2 := t3.tmp.cell 2 (by simp); have z3 := t3.tmp.cell 3 (by simp); have z4 := t3.tmp.cell 4 (by simp); have z5 := t3.tmp.cell 5 (by simp); have z6 := t3.tmp.cell 6 (by simp); simp only [List.set_cons_zero, List.set_cons_succ, List.getElem_cons_zero, List.getElem_cons_succ] at z0 z1 z2 z3 z4 z5 z6 z7; have i0 := t3.res.cell 0 (by simp); have i1 := t3.res.cell 1 (by simp); have i2 := t3.res.cell 2 (by simp); have i3 := t3.res.cell 3 (by simp); have i4 := t3.res.cell 4 (by simp); have i5 := t3.res.cell 5 (by simp); have i6 := t3.res.cell 6 (by simp); have i7 := t3.res.cell 7 (by simp); simp only [List.getElem_cons_zero, List.getElem_cons_succ] at i0 i1 i2 i3 i4 i5 i6 i7; have j0 := t3.res.free 0 (by simp); have j1 := t3.res.free 1 (by simp); have j2 := t3.res.free 2 (by simp); have j3 := t3.res.free 3 (by simp); have j4 := t3.res.free 4 (by simp); have j5 := t3.res.free 5 (by simp); have j6 := t3.res.free 6 (by simp); have j7 := t3.res.free 7 (by simp))
    | (go_at_call 27; have q1' := q1; refine (I2.toIntS s.a2 s.c2 d.po _ ho q1).mono ?_; rintro e w2 ⟨g2, rfl, hg2, k2, b2⟩; have t2 := u1.below b2; have l2 := ((k1.setOther (B' := w.heap.size + 2) (by omega) 4 (.slice (some ⟨g1, 0, none⟩) d.pg.length d.pg.length)).setOther (B' := w.heap.size + 2) (by omega) 5 (.string d.sav)).below b2; have n12 : g1 < g2 := (by have hq := ((k1.setOther (B' := w.heap.size + 2) (by omega) 4 (.slice (some ⟨g1, 0, none⟩) d.pg.length d.pg.length)).setOther (B' := w.heap.size + 2) (by omega) 5 (.string d.sav)).lt; omega); have hg2' : w.heap.size + 3 ≤ g2 := (by have hq := u1.tmp.lt; omega); have l2 := l2.setOther (B' := w.heap.size + 2) (by omega) 6 (.slice (some ⟨g2, 0, none⟩) d.po.length d.po.length); have c7 := t2.arg.c7; have x6 := t2.tmp.cell 6 (by simp); have y6 := t2.tmp.free 6 (by simp); simp only [List.set_cons_zero, List.set_cons_succ, List.getElem_cons_zero, List.getElem_cons_succ] at x6; have u2 := t2.set 6 (.slice (some ⟨g2, 0, none⟩) d.po.length d.po.length); have q2 := (HL.out _ u2.bel).r3)
    | (go_at_call 27; refine (I2.toIntS s.a1 s.c1 d.pg _ hp r0).mono ?_; rintro e w1 ⟨g1, rfl, hg1, k1, b1⟩; have t1 := t0.below b1; have hg1' : w.heap.size + 3 ≤ g1 := (by have hq := t0.tmp.lt; omega); have c5 := t1.arg.c5; have c6 := t1.arg.c6; have x4 := t1.tmp.cell 4 (by simp); have y4 := t1.tmp.free 4 (by simp); have x5 := t1.tmp.cell 5 (by simp); have y5 := t1.tmp.free 5 (by simp); simp only [List.getElem_cons_zero, List.getElem_cons_succ] at x4 x5; have u1 := (t1.set 4 (.slice (some ⟨g1, 0, none⟩) d.pg.length d.pg.length)).set 5 (.string d.sav); have q1 := (HL.out _ u1.bel).r2))
  have hg3' : w.heap.size + 3 ≤ g3 := by
    have := u2.tmp.lt
    simp at hg3 this
    omega
  have u3 := t3.set 7 (.slice (some ⟨g3, 0, none⟩) d.fr.length d.fr.length)
  have q := put8 (y0 := .int .i64 d.ino) (y1 := .int .i64 d.cl) (y2 := .int .i64 d.un) (y3 := .string d.rc) (y4 := .slice (some ⟨g1, 0, none⟩) d.pg.length d.pg.length) (y5 := .string d.sav) (y6 := .slice (some ⟨g2, 0, none⟩) d.po.length d.po.length) (y7 := .slice (some ⟨g3, 0, none⟩) d.fr.length d.fr.length) u3.res
  have v0 := q.cell 0 (by simp)
  have v1 := q.cell 1 (by simp)
  have v2 := q.cell 2 (by simp)
  have v3 := q.cell 3 (by simp)
  have v4 := q.cell 4 (by simp)
  have v5 := q.cell 5 (by simp)
  have v6 := q.cell 6 (by simp)
  have v7 := q.cell 7 (by simp)
  simp only [List.getElem_cons_zero, List.getElem_cons_succ] at v0 v1 v2 v3 v4 v5 v6 v7
  refine bodyPost_ret (v := val d (at3 d g1 g2 g3)) (by simp [results, Try.results12, go_sem, v0, v1, v2, v3, v4, v5, v6, v7, at3]) rfl ⟨g1, g2, g3, rfl, ⟨by omega, by omega, by omega, ?_, ?_, ?_⟩, n12, n23, ?_⟩
  · exact other8 (m1.setOther (B' := w.heap.size + 2) (by omega) 7 _) (by omega) _ _ _ _ _ _ _ _
  · exact other8 (m2.setOther (B' := w.heap.size + 2) (by omega) 7 _) (by omega) _ _ _ _ _ _ _ _
  · exact other8 (k3.setOther (B' := w.heap.size + 2) (by omega) 7 _) (by omega) _ _ _ _ _ _ _ _
  · exact bel8 u3.bel (by omega) _ _ _ _ _ _ _ _

theorem mark_at {g c k : Nat} {vs : List Value} {L : Nat} {W : World} (h : vs.length = L ∧ K0.Blk g vs W) (hn : L ≤ 1048576) (h0 : k ≤ 1099511627776) :
    Calls Try.prog 33 #[.slice (some ⟨g, 0, none⟩) L c, .int .i64 (k : Int)] W fun e w' => e = .returned (.int .i64 ((k + L : Nat) : Int)) ∧ W.grownBy w' (some g) := by
  obtain ⟨rfl, hb⟩ := h
  exact R5.markAny g c vs k W hn h0 hb

/-- The law's loan, boxed; a copy of it, boxed; two rows that were handed out, the first ahead of the copy, the second behind it; what the second holds now. -/
structure K (w : World) (d : Ln) (s : Sl) (f1 f2 f3 B : Nat) (v1 v2 v3 : List Value) (aw ag : Option Addr) (Z M : List Int) (W : World) : Prop where
  a : A w d s W
  n : LB B d (at3 d f1 f2 f3) W
  lo : w.heap.size < f1 ∧ f1 < f2 ∧ f2 < f3 ∧ f3 < B
  k1 : v1.length = d.pg.length ∧ K0.Blk f1 v1 W
  k2 : v2.length = d.po.length ∧ K0.Blk f2 v2 W
  k3 : v3.length = d.fr.length ∧ K0.Blk f3 v3 W
  rows : Z = [] ∨ ∃ g1 g2, aw = some ⟨g1, 0, none⟩ ∧ ag = some ⟨g2, 0, none⟩ ∧ w.heap.size < g1 ∧ g1 < f1 ∧ B < g2 ∧ K0.Blk g1 (ints Z) W ∧ K0.Blk g2 (ints M) W

variable {w W W' : World} {d : Ln} {s : Sl} {f1 f2 f3 B : Nat} {v1 v2 v3 : List Value} {aw ag : Option Addr} {Z M : List Int}

theorem K.below (h : K w d s f1 f2 f3 B v1 v2 v3 aw ag Z M W) (hb : Below W.heap.size W W') : K w d s f1 f2 f3 B v1 v2 v3 aw ag Z M W' :=
  ⟨h.a.below hb, h.n.below hb, h.lo, ⟨h.k1.1, h.k1.2.below hb⟩, ⟨h.k2.1, h.k2.2.below hb⟩, ⟨h.k3.1, h.k3.2.below hb⟩, h.rows.imp id fun ⟨g1, g2, e1, e2, l1, l2, l3, b1, b2⟩ => ⟨g1, g2, e1, e2, l1, l2, l3, b1.below hb, b2.below hb⟩⟩
theorem K.drew (h : K w d s f1 f2 f3 B v1 v2 v3 aw ag Z M W) : K w d s f1 f2 f3 B v1 v2 v3 aw ag Z M W.drew := h.below ((Below.refl _ _).drew)

theorem K.roww (h : K w d s f1 f2 f3 B v1 v2 v3 aw ag Z M W) : P0.Row W aw Z := by
  rcases h.rows with h0 | ⟨g1, g2, e1, e2, _, _, _, b1, b2⟩
  · exact Or.inl h0
  · exact e1 ▸ I2.row_of_blk b1
theorem K.rowg (h : K w d s f1 f2 f3 B v1 v2 v3 aw ag Z Z W) : P0.Row W ag Z := by
  rcases h.rows with h0 | ⟨g1, g2, e1, e2, _, _, _, b1, b2⟩
  · exact Or.inl h0
  · exact e2 ▸ I2.row_of_blk b2
theorem K.lists (h : K w d s f1 f2 f3 B (ints d.pg) (ints d.po) (ints d.fr) aw ag Z M W) : Lists W d (at3 d f1 f2 f3) := ⟨I2.row_of_blk h.k1.2, I2.row_of_blk h.k2.2, I2.row_of_blk h.k3.2⟩

/-- The first row, then the copy, boxed, then the second row. -/
theorem k_new {w3 w4 w5 : World} (h3 : A w d s w3) (o3 : J0.Own (w.heap.size + 1) w3 aw Z) (h4 : Below w3.heap.size w3 w4) (cp : Cp w3.heap.size d f1 f2 f3 w4) (n12 : f1 < f2) (n23 : f2 < f3)
    (h5' : Below (w4.alloc (.cells #[.int .i64 d.ino, .int .i64 d.cl, .int .i64 d.un, .string d.rc, .slice (at3 d f1 f2 f3).a1 d.pg.length (at3 d f1 f2 f3).c1, .string d.sav, .slice (at3 d f1 f2 f3).a2 d.po.length (at3 d f1 f2 f3).c2, .slice (at3 d f1 f2 f3).a3 d.fr.length (at3 d f1 f2 f3).c3] 35)).heap.size (w4.alloc (.cells #[.int .i64 d.ino, .int .i64 d.cl, .int .i64 d.un, .string d.rc, .slice (at3 d f1 f2 f3).a1 d.pg.length (at3 d f1 f2 f3).c1, .string d.sav, .slice (at3 d f1 f2 f3).a2 d.po.length (at3 d f1 f2 f3).c2, .slice (at3 d f1 f2 f3).a3 d.fr.length (at3 d f1 f2 f3).c3] 35)) w5)
    (o5 : J0.Own (w4.alloc (.cells #[.int .i64 d.ino, .int .i64 d.cl, .int .i64 d.un, .string d.rc, .slice (at3 d f1 f2 f3).a1 d.pg.length (at3 d f1 f2 f3).c1, .string d.sav, .slice (at3 d f1 f2 f3).a2 d.po.length (at3 d f1 f2 f3).c2, .slice (at3 d f1 f2 f3).a3 d.fr.length (at3 d f1 f2 f3).c3] 35)).heap.size w5 ag Z) : K w d s f1 f2 f3 w4.heap.size (ints d.pg) (ints d.po) (ints d.fr) aw ag Z Z w5 := by
  have hs3 := h3.b.b.lt
  have q1 := cp.h1
  have q3 := cp.k3.lt
  refine ⟨((h3.below h4).below (K0.below_new _ _)).below h5', (lb_new d (at3 d f1 f2 f3) w4 35).below h5', ⟨by omega, n12, n23, q3⟩, ⟨by simp, (cp.k1.alloc _).below h5'⟩, ⟨by simp, (cp.k2.alloc _).below h5'⟩, ⟨by simp, (cp.k3.alloc _).below h5'⟩, ?_⟩
  rcases o3 with h0 | ⟨g1, e1, l1, b1⟩
  · exact Or.inl h0
  · rcases o5 with h0 | ⟨g2, e2, l2, b2⟩
    · exact Or.inl h0
    · have := b1.lt
      simp at l2
      exact Or.inr ⟨g1, g2, e1, e2, by omega, by omega, by omega, ((b1.below h4).alloc _).below h5', b2⟩

theorem lists_grown {g : Nat} (h : Lists W d s) (hb : Below w.heap.size w W) (hR : Lists w d s) (hg : W.grownBy W' (some g)) (hlt : w.heap.size ≤ g) : Lists W' d s :=
  hR.below (F0.below_grown hb hg (fun g' e => by obtain rfl := Option.some.inj e; exact hlt) hb.size)

theorem a_grown {g : Nat} (h : A w d s W) (hR : Lists w d s) (hg : W.grownBy W' (some g)) (hlt : w.heap.size < g) : A w d s W' :=
  ⟨⟨M0.blk_grown h.b.b hg (by omega)⟩, lists_grown h.l h.bel hR hg (by omega), F0.below_grown h.bel hg (fun g' e => by obtain rfl := Option.some.inj e; omega) h.bel.size⟩

/-- What is kept when a row of the copy is marked. -/
structure K' (w : World) (d : Ln) (s : Sl) (f1 f2 f3 B : Nat) (aw ag : Option Addr) (Z M : List Int) (W : World) : Prop where
  a : A w d s W
  rows : Z = [] ∨ ∃ g1 g2, aw = some ⟨g1, 0, none⟩ ∧ ag = some ⟨g2, 0, none⟩ ∧ w.heap.size < g1 ∧ g1 < f1 ∧ B < g2 ∧ K0.Blk g1 (ints Z) W ∧ K0.Blk g2 (ints M) W
  lo : w.heap.size < f1 ∧ f1 < f2 ∧ f2 < f3 ∧ f3 < B

theorem K'.below (h : K' w d s f1 f2 f3 B aw ag Z M W) (hb : Below W.heap.size W W') : K' w d s f1 f2 f3 B aw ag Z M W' :=
  ⟨h.a.below hb, h.rows.imp id fun ⟨g1, g2, e1, e2, l1, l2, l3, b1, b2⟩ => ⟨g1, g2, e1, e2, l1, l2, l3, b1.below hb, b2.below hb⟩, h.lo⟩
theorem K'.grown {g : Nat} (h : K' w d s f1 f2 f3 B aw ag Z M W) (hR : Lists w d s) (hg : W.grownBy W' (some g)) (h1 : f1 ≤ g) (h2 : g < B) : K' w d s f1 f2 f3 B aw ag Z M W' :=
  ⟨a_grown h.a hR hg (by have := h.lo; omega), h.rows.imp id fun ⟨g1, g2, e1, e2, l1, l2, l3, b1, b2⟩ => ⟨g1, g2, e1, e2, l1, l2, l3, M0.blk_grown b1 hg (by omega), M0.blk_grown b2 hg (by omega)⟩, h.lo⟩
theorem K'.roww (h : K' w d s f1 f2 f3 B aw ag Z M W) : P0.Row W aw Z := by
  rcases h.rows with h0 | ⟨g1, g2, e1, e2, _, _, _, b1, b2⟩
  · exact Or.inl h0
  · exact e1 ▸ I2.row_of_blk b1
theorem K'.rowg (h : K' w d s f1 f2 f3 B aw ag Z Z W) : P0.Row W ag Z := by
  rcases h.rows with h0 | ⟨g1, g2, e1, e2, _, _, _, b1, b2⟩
  · exact Or.inl h0
  · exact e2 ▸ I2.row_of_blk b2

set_option maxHeartbeats 2000000 in
theorem markLoan (hR : Lists w d s) (hp : d.pg.length ≤ 1048576) (ho : d.po.length ≤ 1048576) (hf : d.fr.length ≤ 1048576) (h : K w d s f1 f2 f3 B v1 v2 v3 aw ag Z M W) :
    Calls Try.prog 15 #[val d (at3 d f1 f2 f3), .int .i64 1] W fun e w' => (∃ q : Nat, e = .returned (.int .i64 (q : Int))) ∧ K' w d s f1 f2 f3 B aw ag Z M w' := by
  have h0 := h.below (K0.below_new W (.cells #[.int .i64 d.ino, .int .i64 d.cl, .int .i64 d.un, .string d.rc, .slice (at3 d f1 f2 f3).a1 d.pg.length (at3 d f1 f2 f3).c1, .string d.sav, .slice (at3 d f1 f2 f3).a2 d.po.length (at3 d f1 f2 f3).c2, .slice (at3 d f1 f2 f3).a3 d.fr.length (at3 d f1 f2 f3).c3] 35))
  have bx := lb_new d (at3 d f1 f2 f3) W 35
  have hlo := h.lo
  have hBlt := h.n.b.lt
  have k0 : K' w d s f1 f2 f3 B aw ag Z M _ := ⟨h0.a, h0.rows, h0.lo⟩
  have m1 := R5.markAny f1 d.pg.length v1 1 _ (by rw [h0.k1.1]; exact hp) (by omega) h0.k1.2
  rw [h0.k1.1] at m1
  have K2 := h0.k2
  have K3 := h0.k3
  clear h h0
  go_enter Try.func15, Try.ntmps15
  go_wp2_with (first
    | (go_at_call 33; have hg2' := hg2; refine (mark_at (k := 1 + d.pg.length + d.po.length) (c := d.fr.length) k32 hf (by omega)).mono ?_; rintro e w3 ⟨rfl, hg3⟩; have k3 := k2.grown hR hg3 (by omega) (by omega))
    | (go_at_call 33; have hg1' := hg1; refine (mark_at (k := 1 + d.pg.length) (c := d.po.length) k21 ho (by omega)).mono ?_; rintro e w2 ⟨rfl, hg2⟩; have k2 := k1.grown hR hg2 (by omega) (by omega); have k32 : v3.length = d.fr.length ∧ K0.Blk f3 v3 w2 := ⟨k31.1, M0.blk_grown k31.2 hg2 (by omega)⟩; have b2 : LB W.heap.size d (at3 d f1 f2 f3) w2 := ⟨M0.blk_grown b1.b hg2 (by omega)⟩; have c7 := b2.c7)
    | (go_at_call 33; refine m1.mono ?_; rintro e w1 ⟨rfl, hg1⟩; have k1 := k0.grown hR hg1 (by omega) (by omega); have k21 : v2.length = d.po.length ∧ K0.Blk f2 v2 w1 := ⟨K2.1, M0.blk_grown K2.2 hg1 (by omega)⟩; have k31 : v3.length = d.fr.length ∧ K0.Blk f3 v3 w1 := ⟨K3.1, M0.blk_grown K3.2 hg1 (by omega)⟩; have b1 : LB W.heap.size d (at3 d f1 f2 f3) w1 := ⟨M0.blk_grown bx.b hg1 (by omega)⟩; have c6 := b1.c6))
  go_ret
  exact ⟨⟨_, rfl⟩, k3⟩
end Go.Proofs.Ytkdjcbmmbjongaa.N15
