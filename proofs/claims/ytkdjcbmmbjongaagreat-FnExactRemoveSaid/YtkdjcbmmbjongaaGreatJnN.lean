/- Joined texts: plain facts and contracts, as each part says. -/
import Derived.Test.YtkdjcbmmbjongaaGreatJnH
import Derived.Test.YtkdjcbmmbjongaaGreatJnI
import Derived.Test.YtkdjcbmmbjongaaGreatJnB
import Derived.Test.YtkdjcbmmbjongaaGreatJnL
import Derived.Test.YtkdjcbmmbjongaaGreatJnM

/- The contract of spec.l07Write, as the given laws call it. -/
namespace Go.Proofs.YtkdjcbmmbjongaaGreat.SY
open Go.ChangeShapes Go.WideShapes Go.ChangeAt Go.RowKit
set_option linter.unusedVariables false
set_option linter.unusedSimpArgs false
set_option maxRecDepth 10000

open J0 (IBuf Own)
open PQ (PBuf)
open SQ (Ans ans_no row_take)

theorem need_any (s : Int) (w : World) (h0 : 0 ≤ s) (h1 : s ≤ 281474976710656) :
    Calls Tryz.prog 48 #[.int .i64 s] w fun e w' => e = .returned (.int .i64 (P0.need s)) ∧ w' = w := by
  have e : P0.need s = (s + 32 - 1) / 32 := by unfold P0.need; omega
  rw [e]
  go_enter Tryz.func48, Tryz.ntmps48
  go_wp2
  go_ret
  exact ⟨rfl, rfl⟩

theorem page_any (mem : ByteArray) (j : Nat) (w : World) (hs : mem.size ≤ 281474976710656) (hj : j ≤ 1000) :
    Calls Tryz.prog 50 #[.string mem, .int .i64 (j : Int)] w fun e w' => e = .returned (.string (B2.part mem ((j : Int) * 32) 32)) ∧ w' = w := by
  have hm : mem.size ≤ maxLen := by unfold maxLen; omega
  have hw : (Lit.int .i64 ((j : Int) * 32)).wf = true := N11.wf_of _ (by omega) (by omega)
  go_enter Tryz.func50, Tryz.ntmps50
  go_wp2_with (go_at_call 72; refine (B2.spec_Part _ _ _ _ hm hw (by decide)).mono ?_; rintro e w' ⟨rfl, rfl⟩)
  go_ret
  exact ⟨rfl, rfl⟩

/-- 'append(list, put)' as a step of a region that draws its order. -/
theorem step_put {base n cap : Nat} {a : Option Addr} {w : World} {es : List T0.Ent} {ops : Array Oper} {o : Oper} {A : Act} {K : Act → World → Prop} {Q : Exit → Act → World → Prop} {E : Prop} (hgd : o.guard = none) (sl x : Operand)
    (ho : o.op = .call { callee := .builtin .append, args := #[sl, x], argTypes := #[28, 28] })
    (hbuf : PBuf base w a n cap es) (u : Int) (v : ByteArray) (hs : A.eval sl = .slice a n cap) {H : Nat} (hH : w.heap.size = H) (hx : A.eval x = .slice (some ⟨H, 0, none⟩) 1 1) (hlen : n + 1 ≤ 1048576) (hb : base ≤ w.heap.size)
    (h : ∀ g' cap' w', PBuf base w' (some ⟨g', 0, none⟩) (n + 1) cap' (es ++ [(u, v)]) → Below base w w' → K (A.put o.dst (.slice (some ⟨g', 0, none⟩) (n + 1) cap')) w') :
    if Region.wanted o (yielded ops A.tmps) = true then Oper.wp Tryz.prog o A (w.alloc (.cells #[.int .i64 u, .string v] 65)) K Q else E := by
  subst hH
  obtain ⟨i0, hi, hz0, hz1, hz2⟩ := info_parts PP.info33
  have hb2 := hbuf.alloc (.cells #[.int .i64 u, .string v] 65)
  refine step_append_lies _ hgd sl x 28 ho base 65 i0 (.agg #[.int .i64 0, .string ⟨#[]⟩]) 2 24 Tryz.underlying28 hi hz0 hz1 hz2 rfl (by omega) _ n _ hs hb2.2 ⟨w.heap.size, 0, none⟩ 1 1 [.int .i64 u, .string v] hx rfl (World.news_of_block (heap_alloc_new w _)) (V1.one_ent u v) (by omega) (by unfold maxLen; omega) (by omega) (by simp; omega) _ rfl ?_
  intro g' cap' w' ho' hg' hl' _
  refine h g' cap' w' ⟨by rw [hbuf.1]; simp, ?_⟩ ?_
  · rw [← V1.flat_append]
    exact ho'
  · exact F0.below_grown ((Below.refl _ _).alloc hb _) hg' (fun g hg => (hbuf.2.lt g hg).1) (by simp; omega)

set_option maxHeartbeats 4000000 in
theorem l07Write (ino k o s : Int) (an am : Option Addr) (cn cm : Nat) (pg may : List Int) (data : ByteArray) (w : World) (hd : data.size ≤ 281474976710656) (h1 : pg.length ≤ 1000) (h2 : may.length ≤ 1000) (hpg : ∀ z ∈ PF.grow pg may [], 5 ≤ z ∧ z ≤ 23) (hR : P0.Row w an pg) (hM : P0.Row w am may) :
    Calls Tryz.prog 24 #[.int .i64 ino, I0.val k o s an pg.length cn, .slice am may.length cm, .string data] w (Ans (PF.puts ino k o (PF.grow pg may []) data) (PF.fitsIn (PF.grow pg may []) data) w) := by
  have l0 := K0.below_new w (.cells #[.int .i64 k, .int .i64 o, .int .i64 s, .slice an pg.length cn] 49)
  have k0 := K0.blk_new [.int .i64 k, .int .i64 o, .int .i64 s, .slice an pg.length cn] w 49
  have e0 : (w.alloc (.cells #[.int .i64 k, .int .i64 o, .int .i64 s, .slice an pg.length cn] 49)).heap.size = w.heap.size + 1 := by simp
  have n1 := K0.below_new (w.alloc (.cells #[.int .i64 k, .int .i64 o, .int .i64 s, .slice an pg.length cn] 49)) (.cells #[] 3)
  have B1 := J0.ibuf_made (base := w.heap.size + 1) (w.alloc (.cells #[.int .i64 k, .int .i64 o, .int .i64 s, .slice an pg.length cn] 49)) (by rw [e0]; exact Nat.le_refl _)
  have k1 := k0.below n1
  have c3 := k1.c3
  rw [e0] at n1 B1
  have HB : Hid (∀ W, Below (w.heap.size + 1) (w.alloc (.cells #[.int .i64 k, .int .i64 o, .int .i64 s, .slice an pg.length cn] 49)) W → Below w.heap.size w W ∧ K0.Blk w.heap.size [.int .i64 k, .int .i64 o, .int .i64 s, .slice an pg.length cn] W) := fun W hW => ⟨l0.trans (hW.mono (Nat.le_succ _)), J0.blk_keep k0 hW (Nat.lt_succ_self _)⟩
  have R1 := hR.below (HB.out _ n1).1
  have HM : Hid (∀ W, Below w.heap.size w W → P0.Row W am may) := fun W hW => hM.below hW
  have hsz1 : w.heap.size + 1 ≤ ((w.alloc (.cells #[.int .i64 k, .int .i64 o, .int .i64 s, .slice an pg.length cn] 49)).alloc (.cells #[] 3)).heap.size := by simp
  obtain ⟨P, hP⟩ : ∃ P, PF.grow pg may [] = P := ⟨_, rfl⟩
  rw [hP] at hpg ⊢
  have HP0 : Hid (PF.grow pg may [] = P) := hP
  clear hR hM k0 k1 e0 l0 hP
  go_enter Tryz.func24, Tryz.ntmps24
  go_wp2_with (at_builtin; refine Q1.append_rows rfl (.tmp 16) (.tmp 18) rfl B1 an cn pg (by rfl) (by rfl) R1 (by omega) hsz1 ?_; intro a2 c2 w2 f2 l2)
  have f2' : IBuf (w.heap.size + 1) w2 a2 (PF.grow pg (may.take 0) []).length c2 (PF.grow pg (may.take 0) []) := by simpa [PF.grow] using f2
  have M2 := n1.trans l2
  clear f2 l2 n1 B1 R1 c3 hsz1
  go_loopw [10, 11] (fun p i w' => ∃ (j : Nat) (a' : Option Addr) (cap' : Nat), j ≤ may.length ∧ i = .int .i64 j ∧ p = .slice a' (PF.grow pg (may.take j) []).length cap' ∧ IBuf (w.heap.size + 1) w' a' (PF.grow pg (may.take j) []).length cap' (PF.grow pg (may.take j) []) ∧ Below (w.heap.size + 1) (w.alloc (.cells #[.int .i64 k, .int .i64 o, .int .i64 s, .slice an pg.length cn] 49)) w') (fun _ i _ => may.length - (intOf i).toNat)
  case atStart => exact ⟨0, a2, c2, Nat.zero_le _, rfl, by simp [PF.grow], f2', M2⟩
  case round =>
    obtain ⟨j, a3, c3, hj, rfl, rfl, hbf, hbel⟩ := hrel
    clear f2' M2
    have hgl := PF.grow_len (may.take j) [] pg
    have htl : (may.take j).length ≤ may.length := by simp; omega
    by_cases hlt : j < may.length
    · obtain ⟨b, off, rfl, hlt0, hc⟩ := (HM.out _ (HB.out _ hbel).1).get hlt
      have y1 := hc j hlt
      have hsu := PF.grow_succ pg may [] j hlt
      obtain ⟨z, ez⟩ : ∃ z, may.getD j 0 = z := ⟨_, rfl⟩
      rw [ez] at y1 hsu
      obtain ⟨acc, ea⟩ : ∃ acc, PF.grow pg (may.take j) [] = acc := ⟨_, rfl⟩
      rw [ea] at hbf hsu hgl ⊢
      have HS : Hid (PF.grow pg (may.take (j + 1)) [] = PF.add1 [] acc z) := hsu
      have e1 : (0 : Int) ≤ (j : Int) := by omega
      have e2 : (j : Int) < (may.length : Int) := by omega
      have R3 := hbf.own.row
      have hB := (Nat.le_trans (Nat.le_of_eq (by simp : w.heap.size + 1 = (w.alloc (.cells #[.int .i64 k, .int .i64 o, .int .i64 s, .slice an pg.length cn] 49)).heap.size)) hbel.size)
      clear ez ea hc hsu hpg HM
      by_cases hb2 : P0.has acc z = true
      · have hc2 : Hid (∀ W, P0.Row W a3 acc → Calls Tryz.prog 47 #[.slice a3 acc.length c3, .int .i64 z] W fun e w' => e = .returned (.bool true) ∧ w' = W) := fun W hW => by
          have := N2.hasRow a3 c3 acc z W (by omega) hW
          rwa [hb2] at this
        have HG : Hid (PF.add1 [] acc z = acc) := by
          show PF.add1 [] acc z = acc
          rw [PF.add1, hb2, Bool.or_true, if_pos rfl]
        clear hb2
        go_wp2_with (go_at_call 47; refine (hc2.out _ R3).mono ?_; rintro e w4 ⟨rfl, hw4⟩; subst w4)
        go_roundw
        case rel => exact ⟨j + 1, a3, c3, by omega, by go_num, by rw [HS.out, HG.out], by rw [HS.out, HG.out]; exact hbf, hbel⟩
        case measure => simp [intOf]; omega
      · have hb2' : P0.has acc z = false := by simpa using hb2
        have hc2 : Hid (∀ W, P0.Row W a3 acc → Calls Tryz.prog 47 #[.slice a3 acc.length c3, .int .i64 z] W fun e w' => e = .returned (.bool false) ∧ w' = W) := fun W hW => by
          have := N2.hasRow a3 c3 acc z W (by omega) hW
          rwa [hb2'] at this
        have HG : Hid (PF.add1 [] acc z = acc ++ [z]) := by
          show PF.add1 [] acc z = acc ++ [z]
          rw [PF.add1, hb2']
          rfl
        clear hb2 hb2'
        go_wp2_with (first
          | (go_at_call 47; refine (hc2.out _ R3).mono ?_; rintro e w4 ⟨rfl, hw4⟩; subst w4)
          | (at_builtin; refine J0.append_int rfl (.tmp 33) (.tmp 38) rfl hbf z (by rfl) (by rfl) (by omega) hB ?_; intro g5 c5 w5 f5 l5))
        go_roundw
        case rel => exact ⟨j + 1, some ⟨g5, 0, none⟩, c5, by omega, by go_num, by rw [HS.out, HG.out]; simp, by rw [HS.out, HG.out, List.length_append]; exact f5, hbel.trans l5⟩
        case measure => simp [intOf]; omega
    · obtain rfl : j = may.length := by omega
      rw [List.take_length] at hbf hgl ⊢
      obtain ⟨hb0, kb0⟩ := HB.out _ hbel
      rw [HP0.out] at hbf hgl ⊢
      clear HP0 HM HB hlt hj
      obtain ⟨wc, hwc⟩ : ∃ wc, wc = wr := ⟨_, rfl⟩
      subst hwc
      have hfit := hbf.fits
      have hsz : w.heap.size + 1 ≤ wc.heap.size := kb0.lt
      have hown := hbf.own
      have rowP := hbf.own.row
      have hnd : Hid (∀ W, Calls Tryz.prog 48 #[.int .i64 (data.size : Int)] W fun e w' => e = .returned (.int .i64 (P0.need data.size)) ∧ w' = W) := fun W => need_any _ W (by omega) (by omega)
      obtain ⟨q, hq⟩ : ∃ q : Nat, P0.need data.size = (q : Int) := ⟨(P0.need data.size).toNat, by unfold P0.need; omega⟩
      have hqt : (P0.need data.size).toNat = q := by omega
      have hq192 : data.size ≤ 192 → q ≤ 6 := by unfold P0.need at hq; omega
      have hq32 : data.size ≤ q * 32 ∧ (q : Int) * 32 < data.size + 32 := by unfold P0.need at hq; omega
      rw [hq] at hnd
      by_cases g1 : data.size ≤ 192
      · by_cases g2 : q ≤ P.length
        · have hf := PF.fits_yes (pages := P) g1 (by omega)
          have d1 : decide ((192 : Int) < (data.size : Int)) = false := by simp; omega
          have d2 : decide (P.length < q) = false := by simp; omega
          have d3 : decide ((P.length : Int) < (q : Int)) = false := by simp; omega
          have g3 : (q : Int) ≤ (c3 : Int) := by omega
          have g4 : (0 : Int) ≤ (q : Int) := by omega
          have hq6 := hq192 g1
          have hz0 : B4.zeros ((q : Int) * 32 - (data.size : Int)) = B4.nulls (q * 32 - data.size) := by
            rw [B4.zeros, if_pos (by omega), show ((q : Int) * 32 - (data.size : Int)).toNat = q * 32 - data.size by omega]
          obtain ⟨N, hN⟩ : ∃ N, B4.nulls (q * 32 - data.size) = N := ⟨_, rfl⟩
          have hNs : N.size = q * 32 - data.size := by rw [← hN]; exact B4.nulls_size _
          have hZ : Hid (∀ W, Calls Tryz.prog 49 #[.int .i64 ((q : Int) * 32 - (data.size : Int))] W fun e w' => e = .returned (.string N) ∧ w' = W) := fun W => by
            have := B4.spec_Zeros ((q : Int) * 32 - (data.size : Int)) W
            rwa [hz0, hN] at this
          have hsum : data.size + N.size ≤ 9223372036854775807 := by omega
          have HPg : Hid (∀ j, j < q → ∀ W, Calls Tryz.prog 50 #[.string (data ++ N), .int .i64 (j : Int)] W fun e w' => e = .returned (.string (PF.pageText data j)) ∧ w' = W) := fun j hj W => by
            have h := page_any (data ++ N) j W (by rw [ByteArray.size_append]; omega) (by omega)
            rw [← hN, PF.page_eq data j q (by omega) (by omega) hq32.1] at h
            rw [← hN]
            exact h
          have hu : Hid (∀ j, PF.pagePuts P data (j + 1) = PF.pagePuts P data j ++ [(P.getD j 0 * 32, PF.pageText data j)]) := fun j => PF.pagePuts_succ P data j
          have HA : Hid (∀ a c w', PBuf wc.heap.size w' a (q + 1) c (PF.pagePuts P data q ++ [(L1.recAt ino, R0.putI k o data.size (P.take q))]) → Below w.heap.size w w' → Ans (PF.puts ino k o P data) (PF.fitsIn P data) w (.returned (.tuple #[.slice a (q + 1) c, .bool true])) w') := fun a c w' h hb => by
            have hl := h.1
            rw [PF.puts_yes hf, hf]
            have HZ : PF.allPuts ino k o P data = PF.pagePuts P data q ++ [(L1.recAt ino, R0.putI k o data.size (P.take q))] := by rw [PF.allPuts, hqt]
            rw [HZ]
            refine ⟨a, c, by rw [← hl], h.own.mono (by omega), by rw [← hl]; exact h.fits, hb⟩
          have htk : (P.take q).length = q := by simp; omega
          have hri : Hid (∀ W, P0.Row W a3 (P.take q) → Calls Tryz.prog 52 #[I0.val k o data.size a3 q c3] W fun e w' => e = .returned (.string (R0.putI k o data.size (P.take q))) ∧ Below W.heap.size W w') := fun W hW => by
            have := R2.spec_PutInode k o data.size a3 c3 (P.take q) W (by omega) (by omega) hW
            rwa [htk] at this
          have p0 := PQ.pbuf_made (base := wc.heap.size) wc (Nat.le_refl _)
          have n0 := K0.below_new wc (.cells #[] 65)
          have HP : Hid (∀ W, Below wc.heap.size wc W → P0.Row W a3 P ∧ K0.Blk w.heap.size [.int .i64 k, .int .i64 o, .int .i64 s, .slice an pg.length cn] W ∧ Below w.heap.size w W) := fun W hW => ⟨rowP.below hW, kb0.below hW, hb0.trans (hW.mono (by omega))⟩
          clear hq hqt hq192 hq32 hf g1 hN hNs hz0 htk hbf hbel hgl rowP kb0 hb0
          go_wp2_with (first
            | (go_at_call 48; refine (hnd.out _).mono ?_; rintro e w4 ⟨rfl, hw4⟩; subst w4)
            | (go_at_call 49; refine (hZ.out _).mono ?_; rintro e w5 ⟨rfl, hw5⟩; subst w5))
          go_loopw [13, 15] (fun p i w' => ∃ (j : Nat) (a' : Option Addr) (cap' : Nat), j ≤ q ∧ i = .int .i64 j ∧ p = .slice a' j cap' ∧ PBuf wc.heap.size w' a' j cap' (PF.pagePuts P data j) ∧ Below wc.heap.size wc w') (fun _ i _ => q - (intOf i).toNat)
          case atStart => exact ⟨0, _, 0, Nat.zero_le _, rfl, rfl, p0, n0⟩
          case round =>
            obtain ⟨j, a6, c6, hj, rfl, rfl, hpb, hbe⟩ := hrel
            clear p0 n0 hnd hZ
            by_cases hlt : j < q
            · obtain ⟨b, off, rfl, hlt0, hc⟩ := (HP.out _ hbe).1.get (k := j) (by omega)
              have y1 := hc j (by omega)
              have hz := hpg (P.getD j 0) (N0.getD_mem (by omega))
              have HU := hu.out j
              have hpc := HPg.out j hlt
              obtain ⟨z, ez⟩ : ∃ z, P.getD j 0 = z := ⟨_, rfl⟩
              rw [ez] at y1 hz HU
              have HU' : Hid (PF.pagePuts P data (j + 1) = PF.pagePuts P data j ++ [(z * 32, PF.pageText data j)]) := HU
              have hpc' : Hid (∀ W, Calls Tryz.prog 50 #[.string (data ++ N), .int .i64 (j : Int)] W fun e w' => e = .returned (.string (PF.pageText data j)) ∧ w' = W) := hpc
              have e1 : (0 : Int) ≤ (j : Int) := by omega
              have e2 : (j : Int) < (P.length : Int) := by omega
              have hB := hbe.size
              have hwz : IntKind.i64.wrap (z * 32) = z * 32 := by rw [IntKind.wrap_i64]; omega
              have hb1 : b < wc.heap.size ∨ b < wr.heap.size := Or.inr hlt0
              have S0 : wr.drew.cell? ⟨b, off + j, none⟩ = some (.int .i64 z) := y1
              have S1 : (wr.drew.alloc (.cells #[.int .i64 (z * 32), .string (PF.pageText data j)] 65)).cell? ⟨b, off + j, none⟩ = some (.int .i64 z) := ((K0.below_new wr.drew (.cells #[.int .i64 (z * 32), .string (PF.pageText data j)] 65)).cell (p := ⟨b, off + j, none⟩) hlt0).trans S0
              have S2 : (wr.alloc (.cells #[.int .i64 (z * 32), .string (PF.pageText data j)] 65)).drew.cell? ⟨b, off + j, none⟩ = some (.int .i64 z) := S1
              have hpb0 : PBuf wc.heap.size wr.drew a6 j c6 (PF.pagePuts P data j) := ⟨hpb.1, hpb.2⟩
              have HC : Hid (∀ W, Below wc.heap.size wc W → W.cell? ⟨b, off + j, none⟩ = some (.int .i64 z)) := fun W hW => by
                rcases (HP.out W hW).1.get (k := j) (by omega) with ⟨b', off', hab, _, hc'⟩
                cases hab
                rw [← ez]
                exact hc' j (by omega)
              clear ez hc hpg HU hu HPg hri HA HP hpc hb1
              go_wp2
              go_region_held3 (fun W => W.cell? ⟨b, off + j, none⟩ = some (.int .i64 z)) (assumption) ((first
                | (go_at_call 50; refine (hpc'.out _).mono ?_; rintro e w7 ⟨rfl, hw7⟩; subst w7)
                | (refine step_put rfl (.tmp 67) (.tmp 77) rfl hpb0 (z * 32) (PF.pageText data j) (by rfl) (H := wr.heap.size) rfl (by rfl) (by omega) hB ?_; intro g8 c8 w8 pb8 b8; have be8 := hbe.drew.trans b8; have S8 : w8.cell? ⟨b, off + j, none⟩ = some (.int .i64 z) := HC.out _ be8)))
              all_goals
                go_wp2
                go_roundw
                case rel => exact ⟨j + 1, some ⟨g8, 0, none⟩, c8, by omega, by go_num, rfl, by rw [HU'.out]; exact pb8, be8⟩
                case measure => simp [intOf]; omega
            · obtain rfl : j = q := by omega
              obtain ⟨rP, kB, M3⟩ := HP.out _ hbe
              have z2 := kB.c2
              have g2' := kB.f2
              have z3 := kB.c3
              have g3' := kB.f3
              have hwlt : w.heap.size < wc.heap.size := hsz
              have k5 := (kB.set 2 (.int .i64 (data.size : Int))).set 3 (.slice a3 j c3)
              simp only [List.set_cons_zero, List.set_cons_succ] at k5
              have M5 := (M3.setCell (p := ⟨w.heap.size, 2, none⟩) (Nat.le_refl _) (.int .i64 (data.size : Int))).setCell (p := ⟨w.heap.size, 3, none⟩) (Nat.le_refl _) (.slice a3 j c3)
              have pb5 : PBuf wc.heap.size ((wr.setCell ⟨w.heap.size, 2, none⟩ (.int .i64 (data.size : Int))).setCell ⟨w.heap.size, 3, none⟩ (.slice a3 j c3)) a6 j c6 (PF.pagePuts P data j) := ⟨hpb.1, ownsRow_setCell_other (ownsRow_setCell_other hpb.2 (a := ⟨w.heap.size, 2, none⟩) (fun e => by have := (hpb.2.lt _ e).1; simp only at this; omega) _) (a := ⟨w.heap.size, 3, none⟩) (fun e => by have := (hpb.2.lt _ e).1; simp only at this; omega) _⟩
              have rP5 : P0.Row ((wr.setCell ⟨w.heap.size, 2, none⟩ (.int .i64 (data.size : Int))).setCell ⟨w.heap.size, 3, none⟩ (.slice a3 j c3)) a3 (P.take j) := by
                have hO := hown
                rcases hO with h0 | ⟨g, hg, hgb, hgk⟩
                · subst h0
                  exact Or.inl (by simp)
                · have hgk' := ((hgk.below hbe).setOther (B' := w.heap.size) (by omega) 2 (.int .i64 (data.size : Int))).setOther (B' := w.heap.size) (by omega) 3 (.slice a3 j c3)
                  have hrt := row_take (I2.row_of_blk hgk') j g2
                  rw [← hg] at hrt
                  exact hrt
              have hsz5 : wc.heap.size ≤ ((wr.setCell ⟨w.heap.size, 2, none⟩ (.int .i64 (data.size : Int))).setCell ⟨w.heap.size, 3, none⟩ (.slice a3 j c3)).heap.size := by
                have := hbe.size
                simpa [World.setCell] using this
              clear hu HPg HP hpb hbe rP kB M3 hpg hown
              go_wp2
              obtain ⟨w5, hw5⟩ : ∃ w5, (wr.setCell ⟨w.heap.size, 2, none⟩ (.int .i64 (data.size : Int))).setCell ⟨w.heap.size, 3, none⟩ (.slice a3 j c3) = w5 := ⟨_, rfl⟩
              rw [hw5] at k5 M5 pb5 rP5 hsz5 ⊢
              clear hw5 z2 g2' z3 g3'
              have S0 : w5.drew.cell? ⟨w.heap.size, 0, none⟩ = some (.int .i64 k) ∧ w5.drew.cell? ⟨w.heap.size, 1, none⟩ = some (.int .i64 o) ∧ w5.drew.cell? ⟨w.heap.size, 2, none⟩ = some (.int .i64 (data.size : Int)) ∧ w5.drew.cell? ⟨w.heap.size, 3, none⟩ = some (.slice a3 j c3) := ⟨k5.c0, k5.c1, k5.c2, k5.c3⟩
              go_region_held3 (fun W => W.cell? ⟨w.heap.size, 0, none⟩ = some (.int .i64 k) ∧ W.cell? ⟨w.heap.size, 1, none⟩ = some (.int .i64 o) ∧ W.cell? ⟨w.heap.size, 2, none⟩ = some (.int .i64 (data.size : Int)) ∧ W.cell? ⟨w.heap.size, 3, none⟩ = some (.slice a3 j c3)) (assumption) ((first
                | (go_at_call 51; refine (L1.spec_RecAt ino _).mono ?_; rintro e w6 ⟨rfl, hw6⟩; subst w6)
                | (go_at_call 52; refine (hri.out _ (rP5.drew)).mono ?_; rintro e w7 ⟨rfl, b7⟩; have pb7 : PBuf wc.heap.size w7 a6 j c6 (PF.pagePuts P data j) := (PBuf.below (w := w5.drew) ⟨pb5.1, pb5.2⟩ b7); have k7 := k5.drew.below b7; have M7 := M5.drew.trans (b7.mono M5.drew.size); have hs7 : wc.heap.size ≤ w7.heap.size := Nat.le_trans hsz5 b7.size; have S7 : w7.cell? ⟨w.heap.size, 0, none⟩ = some (.int .i64 k) ∧ w7.cell? ⟨w.heap.size, 1, none⟩ = some (.int .i64 o) ∧ w7.cell? ⟨w.heap.size, 2, none⟩ = some (.int .i64 (data.size : Int)) ∧ w7.cell? ⟨w.heap.size, 3, none⟩ = some (.slice a3 j c3) := ⟨k7.c0, k7.c1, k7.c2, k7.c3⟩; have k7a := k7.below (K0.below_new w7 (.cells #[.int .i64 (L1.recAt ino), .string (R0.putI k o data.size (P.take j))] 65)); have S7a : (w7.alloc (.cells #[.int .i64 (L1.recAt ino), .string (R0.putI k o data.size (P.take j))] 65)).cell? ⟨w.heap.size, 0, none⟩ = some (.int .i64 k) ∧ (w7.alloc (.cells #[.int .i64 (L1.recAt ino), .string (R0.putI k o data.size (P.take j))] 65)).cell? ⟨w.heap.size, 1, none⟩ = some (.int .i64 o) ∧ (w7.alloc (.cells #[.int .i64 (L1.recAt ino), .string (R0.putI k o data.size (P.take j))] 65)).cell? ⟨w.heap.size, 2, none⟩ = some (.int .i64 (data.size : Int)) ∧ (w7.alloc (.cells #[.int .i64 (L1.recAt ino), .string (R0.putI k o data.size (P.take j))] 65)).cell? ⟨w.heap.size, 3, none⟩ = some (.slice a3 j c3) := ⟨k7a.c0, k7a.c1, k7a.c2, k7a.c3⟩)
                | (refine step_put rfl (.tmp 86) (.tmp 92) rfl pb7 (L1.recAt ino) (R0.putI k o data.size (P.take j)) (by rfl) (H := w7.heap.size) rfl (by rfl) (by omega) hs7 ?_; intro g8 c8 w8 pb8 b8; have M8 := M7.trans (b8.mono (by omega)); have k8 := J0.blk_keep k7 b8 hwlt; have S8 : w8.cell? ⟨w.heap.size, 0, none⟩ = some (.int .i64 k) ∧ w8.cell? ⟨w.heap.size, 1, none⟩ = some (.int .i64 o) ∧ w8.cell? ⟨w.heap.size, 2, none⟩ = some (.int .i64 (data.size : Int)) ∧ w8.cell? ⟨w.heap.size, 3, none⟩ = some (.slice a3 j c3) := ⟨k8.c0, k8.c1, k8.c2, k8.c3⟩)))
              all_goals
                go_wp2
                go_ret2
                exact HA.out _ _ _ pb8 M8
        · have hf := PF.fits_no2 (data := data) (pages := P) (by omega)
          have g2' : (P.length : Int) < (q : Int) := by omega
          have M9 := hb0.alloc hb0.size (.cells #[] 65)
          have HN : Hid (∀ a c w', Below w.heap.size w w' → Ans (PF.puts ino k o P data) (PF.fitsIn P data) w (.returned (.tuple #[.slice a 0 c, .bool false])) w') := fun a c w' hb => by
            rw [PF.puts_no hf, hf]
            exact ans_no hb
          clear hf hq hqt hq192 hq32 hbf
          go_wp2_with (go_at_call 48; refine (hnd.out _).mono ?_; rintro e w4 ⟨rfl, hw4⟩; subst w4)
          go_ret2
          exact HN.out _ _ _ M9
      · have hf := PF.fits_no1 (pages := P) g1
        have g1' : (192 : Int) < (data.size : Int) := by omega
        have M9 := hb0.alloc hb0.size (.cells #[] 65)
        have HN : Hid (∀ a c w', Below w.heap.size w w' → Ans (PF.puts ino k o P data) (PF.fitsIn P data) w (.returned (.tuple #[.slice a 0 c, .bool false])) w') := fun a c w' hb => by
          rw [PF.puts_no hf, hf]
          exact ans_no hb
        clear hf hq hqt hq192 hq32 hbf
        go_wp2_with (go_at_call 48; refine (hnd.out _).mono ?_; rintro e w4 ⟨rfl, hw4⟩; subst w4)
        go_ret2
        exact HN.out _ _ _ M9
end Go.Proofs.YtkdjcbmmbjongaaGreat.SY

/- The contract of spec.PutFile, as the given laws call it. -/
namespace Go.Proofs.YtkdjcbmmbjongaaGreat.SG
open Go.ChangeShapes Go.WideShapes Go.ChangeAt Go.RowKit
set_option linter.unusedVariables false
set_option linter.unusedSimpArgs false
set_option maxRecDepth 10000

open N0 (Ln)
open N1 (Sl Lists Fit LB lb_new)
open I0 (val)
open J0 (Own IBuf)
open I2 (ints)
open SW (stOk)
open SQ (Ans)
open SF (mayHave allOf fileZ fileOk file_yes file_no st_facts may_facts)

variable {base n cap : Nat} {a : Option Addr} {w W : World} {zs : List Int}

theorem run_rows (ty : TypeId) (hbuf : IBuf base w a n cap zs) (ax : Option Addr) (cx : Nat) (xs : List Int) (hR : P0.Row w ax xs) (hlen : n + xs.length ≤ 4194304) (hb : base ≤ w.heap.size) :
    ∃ a' cap' w', (Builtin.append_ #[22, 22] ty #[.slice a n cap, .slice ax xs.length cx]).run Tryz.prog w = .ok (.slice a' (n + xs.length) cap') w' ∧ IBuf base w' a' (n + xs.length) cap' (zs ++ xs) ∧ Below base w w' := by
  obtain ⟨i0, hi, hz0, hz1, hz2⟩ := info_parts I2.info3
  by_cases h0 : xs = []
  · subst h0
    exact ⟨a, cap, w, Q1.run_append_none w 22 _ 3 i0 Tryz.underlying22 hi a n cap hbuf.fits ax cx, by rw [List.append_nil]; exact hbuf, Below.refl _ _⟩
  · rcases hR with hR | ⟨b, off, rfl, hb2, hc⟩
    · exact absurd hR h0
    · have hm : 0 < xs.length := List.length_pos_iff.2 h0
      obtain ⟨g, cp, w', hrun, r1, r2, r3, r4⟩ := run_append_lies (P := Tryz.prog) w 22 ty base 3 i0 (.int .i64 0) 1 8 Tryz.underlying22 hi hz0 hz1 hz2 rfl (by omega) _ n _ hbuf.2 ⟨b, off, none⟩ xs.length cx (ints xs) (by simp) (by
        intro j u hj
        have hj' : j < xs.length := by
          have := (List.getElem?_eq_some_iff.1 hj).1
          simpa using this
        rw [B0.add_off, hc j hj', P0.getD_get _ _ hj', ← hj]
        simp [hj']) (Q1.ints_one xs) hm (by unfold maxLen; omega) (by omega) hb _ rfl
      refine ⟨some ⟨g, 0, none⟩, cp, w', hrun, ⟨by rw [hbuf.1]; simp, ?_⟩, F0.below_grown (Below.refl _ _) r2 (J0.own_block hbuf) hb⟩
      rw [show ints (zs ++ xs) = ints zs ++ ints xs by simp]
      exact r1

/-- 'append(list, others...)' as a step of a region that draws its order. -/
theorem step_rows {ops : Array Oper} {o : Oper} {A : Act} {K : Act → World → Prop} {Q : Exit → Act → World → Prop} {E : Prop} (hgd : o.guard = none) (sl x : Operand)
    (ho : o.op = .call { callee := .builtin .append, args := #[sl, x], argTypes := #[22, 22] })
    (hbuf : IBuf base w a n cap zs) (ax : Option Addr) (cx : Nat) (xs : List Int) (hs : A.eval sl = .slice a n cap) (hx : A.eval x = .slice ax xs.length cx) (hR : P0.Row w ax xs) (hlen : n + xs.length ≤ 4194304) (hb : base ≤ w.heap.size)
    (h : ∀ a' cap' w', IBuf base w' a' (n + xs.length) cap' (zs ++ xs) → Below base w w' → K (A.put o.dst (.slice a' (n + xs.length) cap')) w') :
    if Region.wanted o (yielded ops A.tmps) = true then Oper.wp Tryz.prog o A w K Q else E := by
  have hw : Region.wanted o (yielded ops A.tmps) = true := by simp [Region.wanted, hgd]
  rw [if_pos hw]
  obtain ⟨a', cap', w', hrun, r1, r2⟩ := run_rows o.type hbuf ax cx xs hR hlen hb
  exact Lib.wp_append_run _ sl x 22 22 ho _ _ hs hx _ _ hrun (h a' cap' w' r1 r2)

end Go.Proofs.YtkdjcbmmbjongaaGreat.SG

/- The contracts of impl.heldPages, spec.l07Taken and spec.l07Rest, as the given laws call them. -/
namespace Go.Proofs.YtkdjcbmmbjongaaGreat.NM
open Go.ChangeShapes Go.WideShapes Go.ChangeAt Go.RowKit
set_option linter.unusedVariables false
set_option linter.unusedSimpArgs false
set_option maxRecDepth 10000

open N0 (Ln)
open N1 (Sl Lists Fit LB lb_new)
open I0 (val)
open J0 (Own IBuf)
open SR (SI)

/-- The pages that some records have, as they stand. -/
def heldTo (mem : ByteArray) (fr : List Int) : Nat → List Int
  | 0 => []
  | k + 1 => heldTo mem fr k ++ G0.gZ (O0.recd mem (fr.getD k 0))

theorem gZ_len (s : ByteArray) : (G0.gZ s).length ≤ 12 := by
  unfold G0.gZ
  split
  · rw [G0.pgs_length]; exact G0.cnt_le s
  · exact Nat.zero_le _

theorem held_len (mem : ByteArray) (fr : List Int) : ∀ k, (heldTo mem fr k).length ≤ 12 * k
  | 0 => Nat.le_refl _
  | k + 1 => by
    have h1 := held_len mem fr k
    have h2 := gZ_len (O0.recd mem (fr.getD k 0))
    rw [heldTo, List.length_append]
    omega

set_option maxHeartbeats 2000000 in
theorem heldPages (mem : ByteArray) (af : Option Addr) (cf : Nat) (fr : List Int) (w : World) (hs : mem.size ≤ 281474976710656) (hf : fr.length ≤ 1000) (hR : P0.Row w af fr) :
    Calls Tryz.prog 31 #[.string mem, .slice af fr.length cf] w fun e w' => ∃ a c, e = .returned (.slice a (heldTo mem fr fr.length).length c) ∧ Own w.heap.size w' a (heldTo mem fr fr.length) ∧ (heldTo mem fr fr.length).length ≤ c ∧ Below w.heap.size w w' := by
  have s1 := SR.si_new w
  have l1 := K0.below_new w (.cells #[.slice none 0 0] 85)
  have HR : Hid (∀ W, Below w.heap.size w W → P0.Row W af fr) := fun W hW => hR.below hW
  clear hR
  go_enter Tryz.func31, Tryz.ntmps31
  go_wp2
  go_loopw [13] (fun i w' => ∃ (k : Nat) (a' : Option Addr) (cap' : Nat), k ≤ fr.length ∧ i = .int .i64 k ∧ SI w.heap.size a' (heldTo mem fr k).length cap' (heldTo mem fr k) w' ∧ Below w.heap.size w w') (fun i _ => fr.length - (intOf i).toNat)
  case atStart => exact ⟨0, none, 0, Nat.zero_le _, rfl, s1, l1⟩
  case round =>
    obtain ⟨k, a1, cap1, hk, rfl, hsi, hbel⟩ := hrel
    clear s1 l1
    by_cases hlt : k < fr.length
    · obtain ⟨b, off, rfl, hlt0, hc⟩ := (HR.out _ hbel).get hlt
      have y1 := hc k hlt
      have hl := held_len mem fr k
      have hg := gZ_len (O0.recd mem (fr.getD k 0))
      have HS : heldTo mem fr (k + 1) = heldTo mem fr k ++ G0.gZ (O0.recd mem (fr.getD k 0)) := rfl
      obtain ⟨z, ez⟩ : ∃ z, fr.getD k 0 = z := ⟨_, rfl⟩
      rw [ez] at y1 hg HS
      have HS' : Hid (heldTo mem fr (k + 1) = heldTo mem fr k ++ G0.gZ (O0.recd mem z)) := HS
      obtain ⟨acc, ea⟩ : ∃ acc, heldTo mem fr k = acc := ⟨_, rfl⟩
      rw [ea] at hsi hl HS'
      have hrn : Hid (∀ W, Calls Tryz.prog 54 #[.string mem, .int .i64 z] W (G3.Ans (O0.recd mem z) W)) := fun W => SW.recordNow mem z W hs
      have hlen : acc.length + (G0.gZ (O0.recd mem z)).length ≤ 1048576 := by omega
      have e1 : (0 : Int) ≤ (k : Int) := by omega
      have e2 : (k : Int) < (fr.length : Int) := by omega
      have hB := hbel.size
      clear ez ea hc HS
      go_wp2_with (first
        | (go_at_call 54; refine (hrn.out _).mono ?_; rintro e w2 ⟨a2, c2, rfl, o2, q2, b2⟩; have n3 := K0.below_new w2 (.cells #[.int .i64 (G0.gK (O0.recd mem z)), .int .i64 (G0.gO (O0.recd mem z)), .int .i64 (G0.gS (O0.recd mem z)), .slice a2 (G0.gZ (O0.recd mem z)).length c2] 49); have y3 := (K0.blk_new [.int .i64 (G0.gK (O0.recd mem z)), .int .i64 (G0.gO (O0.recd mem z)), .int .i64 (G0.gS (O0.recd mem z)), .slice a2 (G0.gZ (O0.recd mem z)).length c2] w2 49); have z3 := y3.c3; have s3 := (hsi.below b2).below n3; have r3 := o2.row.below n3; have M3 := (hbel.trans (b2.mono hB)).trans (n3.mono (Nat.le_trans hB b2.size)))
        | (go_at_call 57; refine (SR.add a2 c2 (G0.gZ (O0.recd mem z)) _ s3 r3 hlen).mono ?_; rintro e w4 ⟨rfl, a4, c4, s4, b4⟩; have M4 := M3.trans b4))
      go_roundw
      case rel => exact ⟨k + 1, a4, c4, by omega, by go_num, by rw [HS'.out, List.length_append]; exact s4, M4⟩
      case measure => simp [intOf]; omega
    · obtain rfl : k = fr.length := by omega
      have z3 := hsi.blk.c0
      clear HR
      go_wp2
      go_ret
      exact ⟨a1, cap1, rfl, hsi.buf.own.mono (Nat.le_succ _), hsi.buf.fits, hbel⟩

set_option maxHeartbeats 2000000 in
theorem l07Taken (d : Ln) (s : Sl) (mem : ByteArray) (w : World) (hs : mem.size ≤ 281474976710656) (hf : d.fr.length ≤ 1000) (hn : ∀ z ∈ d.fr, 1 ≤ z ∧ z ≤ 7) (hR : P0.Row w s.a3 d.fr) :
    Calls Tryz.prog 26 #[N1.val d s, .string mem, .int .i64 (-1)] w fun e w' => ∃ a c, e = .returned (.slice a (heldTo mem d.fr d.fr.length).length c) ∧ Own w.heap.size w' a (heldTo mem d.fr d.fr.length) ∧ (heldTo mem d.fr d.fr.length).length ≤ c ∧ Below w.heap.size w w' := by
  have l0 := K0.below_new w (.cells #[.int .i64 d.ino, .int .i64 d.cl, .int .i64 d.un, .string d.rc, .slice s.a1 d.pg.length s.c1, .string d.sav, .slice s.a2 d.po.length s.c2, .slice s.a3 d.fr.length s.c3] 31)
  have x0 := lb_new d s w 31
  have e0 : (w.alloc (.cells #[.int .i64 d.ino, .int .i64 d.cl, .int .i64 d.un, .string d.rc, .slice s.a1 d.pg.length s.c1, .string d.sav, .slice s.a2 d.po.length s.c2, .slice s.a3 d.fr.length s.c3] 31)).heap.size = w.heap.size + 1 := by simp
  have n1 := K0.below_new (w.alloc (.cells #[.int .i64 d.ino, .int .i64 d.cl, .int .i64 d.un, .string d.rc, .slice s.a1 d.pg.length s.c1, .string d.sav, .slice s.a2 d.po.length s.c2, .slice s.a3 d.fr.length s.c3] 31)) (.cells #[] 3)
  have B1 := J0.ibuf_made (base := w.heap.size + 1) (w.alloc (.cells #[.int .i64 d.ino, .int .i64 d.cl, .int .i64 d.un, .string d.rc, .slice s.a1 d.pg.length s.c1, .string d.sav, .slice s.a2 d.po.length s.c2, .slice s.a3 d.fr.length s.c3] 31)) (by rw [e0]; exact Nat.le_refl _)
  rw [e0] at n1 B1
  have HB : Hid (∀ W, Below (w.heap.size + 1) (w.alloc (.cells #[.int .i64 d.ino, .int .i64 d.cl, .int .i64 d.un, .string d.rc, .slice s.a1 d.pg.length s.c1, .string d.sav, .slice s.a2 d.po.length s.c2, .slice s.a3 d.fr.length s.c3] 31)) W → Below w.heap.size w W ∧ LB w.heap.size d s W) := fun W hW => ⟨l0.trans (hW.mono (Nat.le_succ _)), ⟨J0.blk_keep x0.b hW (Nat.lt_succ_self _)⟩⟩
  have HR : Hid (∀ W, Below w.heap.size w W → P0.Row W s.a3 d.fr) := fun W hW => hR.below hW
  clear hR l0 x0 e0
  go_enter Tryz.func26, Tryz.ntmps26
  go_wp2
  go_loopw [7, 8] (fun p i w' => ∃ (k : Nat) (a' : Option Addr) (cap' : Nat), k ≤ d.fr.length ∧ i = .int .i64 k ∧ p = .slice a' (heldTo mem d.fr k).length cap' ∧ IBuf (w.heap.size + 1) w' a' (heldTo mem d.fr k).length cap' (heldTo mem d.fr k) ∧ Below (w.heap.size + 1) (w.alloc (.cells #[.int .i64 d.ino, .int .i64 d.cl, .int .i64 d.un, .string d.rc, .slice s.a1 d.pg.length s.c1, .string d.sav, .slice s.a2 d.po.length s.c2, .slice s.a3 d.fr.length s.c3] 31)) w') (fun _ i _ => d.fr.length - (intOf i).toNat)
  case atStart => exact ⟨0, _, _, Nat.zero_le _, rfl, rfl, B1, n1⟩
  case round =>
    obtain ⟨k, a1, cap1, hk, rfl, rfl, hbf, hbel⟩ := hrel
    clear B1 n1
    obtain ⟨M1, x1⟩ := HB.out _ hbel
    have c7 := x1.c7
    by_cases hlt : k < d.fr.length
    · obtain ⟨b, off, hab, hlt0, hc⟩ := (HR.out _ M1).get hlt
      have y1 := hc k hlt
      have hz := hn (d.fr.getD k 0) (N0.getD_mem hlt)
      have hl := held_len mem d.fr k
      have hg := gZ_len (O0.recd mem (d.fr.getD k 0))
      have HS : heldTo mem d.fr (k + 1) = heldTo mem d.fr k ++ G0.gZ (O0.recd mem (d.fr.getD k 0)) := rfl
      obtain ⟨z, ez⟩ : ∃ z, d.fr.getD k 0 = z := ⟨_, rfl⟩
      rw [ez] at y1 hg HS hz
      rw [hab] at c7
      have HC7 : Hid (∀ W, LB w.heap.size d s W → W.cell? ⟨w.heap.size, 7, none⟩ = some (.slice (some ⟨b, off, none⟩) d.fr.length s.c3)) := fun W h => by
        have := h.c7
        rwa [hab] at this
      have HS' : Hid (heldTo mem d.fr (k + 1) = heldTo mem d.fr k ++ G0.gZ (O0.recd mem z)) := HS
      obtain ⟨acc, ea⟩ : ∃ acc, heldTo mem d.fr k = acc := ⟨_, rfl⟩
      rw [ea] at hbf hl HS' ⊢
      have hgi : Hid (∀ W, Calls Tryz.prog 43 #[.string (O0.recd mem z)] W (G3.Ans (O0.recd mem z) W)) := fun W => G4.spec_GetInode _ W (O0.recd_size mem z hs)
      have hlr : Hid (∀ W, Calls Tryz.prog 44 #[.string mem, .int .i64 z] W fun e w' => e = .returned (.string (O0.recd mem z)) ∧ w' = W) := fun W => O1.l03Rec mem z W hs
      have hlen : acc.length + (G0.gZ (O0.recd mem z)).length ≤ 4194304 := by omega
      have e1 : (0 : Int) ≤ (k : Int) := by omega
      have e2 : (k : Int) < (d.fr.length : Int) := by omega
      have hd : (z == -1) = false := by simp; omega
      have hd2 : decide (z = -1) = false := by simp; omega
      have hB : w.heap.size + 1 ≤ wr.heap.size := x1.b.lt
      clear ez ea hc HS hab hn
      go_wp2_with (first
        | (go_at_call 44; refine (hlr.out _).mono ?_; rintro e w2 ⟨rfl, hw2⟩; subst w2)
        | (go_at_call 43; refine (hgi.out _).mono ?_; rintro e w3 ⟨a3, c3, rfl, o3, q3, b3⟩; have n4 := K0.below_new w3 (.cells #[.int .i64 (G0.gK (O0.recd mem z)), .int .i64 (G0.gO (O0.recd mem z)), .int .i64 (G0.gS (O0.recd mem z)), .slice a3 (G0.gZ (O0.recd mem z)).length c3] 49); have y4 := (K0.blk_new [.int .i64 (G0.gK (O0.recd mem z)), .int .i64 (G0.gO (O0.recd mem z)), .int .i64 (G0.gS (O0.recd mem z)), .slice a3 (G0.gZ (O0.recd mem z)).length c3] w3 49); have z4 := y4.c3; have f4 := (hbf.below b3).below n4; have r4 := o3.row.below n4; have M4 := (hbel.trans (b3.mono hB)).trans (n4.mono (Nat.le_trans hB b3.size)); have c74 := HC7.out _ ((x1.below b3).below n4); have y14 := ((b3.trans (n4.mono b3.size)).cell (p := ⟨b, off + k, none⟩) hlt0).trans y1; have hB4 := Nat.le_trans hB (Nat.le_trans b3.size n4.size))
        | (at_builtin; refine Q1.append_rows rfl (.tmp 37) (.tmp 39) rfl f4 a3 c3 (G0.gZ (O0.recd mem z)) (by rfl) (by rfl) r4 hlen hB4 ?_; intro a5 c5 w5 f5 l5))
      go_roundw
      case rel => exact ⟨k + 1, a5, c5, by omega, by go_num, by rw [HS'.out, List.length_append], by rw [HS'.out, List.length_append]; exact f5, M4.trans l5⟩
      case measure => simp [intOf]; omega
    · obtain rfl : k = d.fr.length := by omega
      clear HR hn
      go_wp2
      go_ret
      exact ⟨a1, cap1, rfl, hbf.own.mono (Nat.le_succ _), hbf.fits, M1⟩

set_option maxHeartbeats 2000000 in
theorem l07Rest (al at_ : Option Addr) (cl ct : Nat) (list taken : List Int) (w : World) (h1 : list.length ≤ 1000) (h2 : taken.length ≤ 281474976710656) (hL : P0.Row w al list) (hT : P0.Row w at_ taken) :
    Calls Tryz.prog 25 #[.slice al list.length cl, .slice at_ taken.length ct] w fun e w' => ∃ a c, e = .returned (.slice a (PF.rest list taken).length c) ∧ Own w.heap.size w' a (PF.rest list taken) ∧ (PF.rest list taken).length ≤ c ∧ Below w.heap.size w w' := by
  have n1 := K0.below_new w (.cells #[] 3)
  have B1 := J0.ibuf_made (base := w.heap.size) w (Nat.le_refl _)
  have HR : Hid (∀ W, Below w.heap.size w W → P0.Row W al list ∧ P0.Row W at_ taken) := fun W hW => ⟨hL.below hW, hT.below hW⟩
  clear hL hT
  go_enter Tryz.func25, Tryz.ntmps25
  go_wp2
  go_loopw [5, 6] (fun p i w' => ∃ (k : Nat) (a' : Option Addr) (cap' : Nat), k ≤ list.length ∧ i = .int .i64 k ∧ p = .slice a' (PF.rest (list.take k) taken).length cap' ∧ IBuf w.heap.size w' a' (PF.rest (list.take k) taken).length cap' (PF.rest (list.take k) taken) ∧ Below w.heap.size w w') (fun _ i _ => list.length - (intOf i).toNat)
  case atStart => exact ⟨0, _, _, Nat.zero_le _, rfl, rfl, B1, n1⟩
  case round =>
    obtain ⟨k, a1, cap1, hk, rfl, rfl, hbf, hbel⟩ := hrel
    clear B1 n1
    by_cases hlt : k < list.length
    · obtain ⟨rL, rT⟩ := HR.out _ hbel
      obtain ⟨b, off, rfl, hlt0, hc⟩ := rL.get hlt
      have y1 := hc k hlt
      have hsu := PF.rest_succ list taken k hlt
      have hl := PF.rest_len (list.take k) taken
      have htl : (list.take k).length ≤ list.length := by simp; omega
      obtain ⟨z, ez⟩ : ∃ z, list.getD k 0 = z := ⟨_, rfl⟩
      rw [ez] at y1 hsu
      obtain ⟨acc, ea⟩ : ∃ acc, PF.rest (list.take k) taken = acc := ⟨_, rfl⟩
      rw [ea] at hbf hsu hl ⊢
      have e1 : (0 : Int) ≤ (k : Int) := by omega
      have e2 : (k : Int) < (list.length : Int) := by omega
      have hB := hbel.size
      clear ez ea hc rL
      by_cases hb : P0.has taken z = true
      · have hc2 : Hid (∀ W, P0.Row W at_ taken → Calls Tryz.prog 47 #[.slice at_ taken.length ct, .int .i64 z] W fun e w' => e = .returned (.bool true) ∧ w' = W) := fun W hW => by
          have := N2.hasRow at_ ct taken z W h2 hW
          rwa [hb] at this
        rw [hb, if_pos rfl] at hsu
        have HS : Hid (PF.rest (list.take (k + 1)) taken = acc) := hsu
        clear hb hsu
        go_wp2_with (go_at_call 47; refine (hc2.out _ rT).mono ?_; rintro e w4 ⟨rfl, hw4⟩; subst w4)
        go_roundw
        case rel => exact ⟨k + 1, a1, cap1, by omega, by go_num, by rw [HS.out], by rw [HS.out]; exact hbf, hbel⟩
        case measure => simp [intOf]; omega
      · have hb' : P0.has taken z = false := by simpa using hb
        have hc2 : Hid (∀ W, P0.Row W at_ taken → Calls Tryz.prog 47 #[.slice at_ taken.length ct, .int .i64 z] W fun e w' => e = .returned (.bool false) ∧ w' = W) := fun W hW => by
          have := N2.hasRow at_ ct taken z W h2 hW
          rwa [hb'] at this
        rw [hb', if_neg (by decide)] at hsu
        have HS : Hid (PF.rest (list.take (k + 1)) taken = acc ++ [z]) := hsu
        clear hb hb' hsu
        go_wp2_with (first
          | (go_at_call 47; refine (hc2.out _ rT).mono ?_; rintro e w4 ⟨rfl, hw4⟩; subst w4)
          | (at_builtin; refine J0.append_int rfl (.tmp 21) (.tmp 26) rfl hbf z (by rfl) (by rfl) (by omega) hB ?_; intro g5 c5 w5 f5 l5))
        go_roundw
        case rel => exact ⟨k + 1, some ⟨g5, 0, none⟩, c5, by omega, by go_num, by rw [HS.out]; simp, by rw [HS.out, List.length_append]; exact f5, hbel.trans l5⟩
        case measure => simp [intOf]; omega
    · obtain rfl : k = list.length := by omega
      rw [List.take_length] at hbf ⊢
      clear HR
      go_wp2
      go_ret
      exact ⟨a1, cap1, rfl, hbf.own, hbf.fits, hbel⟩
end Go.Proofs.YtkdjcbmmbjongaaGreat.NM
