/- Joined texts: plain facts and contracts, as each part says. -/
import Derived.Test.YtacalabjclclhaaJiA
import Derived.Test.YtacalabjclclhaaJtH
import Derived.Test.YtacalabjclclhaaJtF
import Derived.Test.YtacalabjclclhaaJtG
import Derived.Test.YtacalabjclclhaaJtC
import Derived.Test.YtacalabjclclhaaJtK
import Derived.Deep.RegionHeld3
import Derived.RegionTactic
import Derived.Test.YtacalabjclclhaaJtB
import Derived.Deep.QuietTactic
import Derived.BigQuiet

/- The contract of spec.l03Dir: some entries; the cursor stays one. -/
namespace Go.Proofs.Ytacalabjclclhaa.C1
open Go.ChangeShapes Go.WideShapes Go.ChangeAt Go.RowKit C0
set_option linter.unusedVariables false
set_option linter.unusedSimpArgs false
set_option maxRecDepth 10000

/-- 'list = append(list, e)', the cursor beside it. -/
theorem append_ent2 {base n cp : Nat} {p : Option Addr} {W : World} {es : List T0.Ent} {ops : Array Oper} {rest : List Oper} {o : Oper} {A : Act} {Q : Exit → Act → World → Prop} (hgd : o.guard = none) (sl x : Operand)
    (ho : o.op = .call { callee := .builtin .append, args := #[sl, x], argTypes := #[43, 43] })
    (hbuf : V1.EBuf base W p n cp es) (u : Int) (v : ByteArray) (hs : A.eval sl = .slice p n cp) {H : Nat} (hH : W.heap.size = H) (hx : A.eval x = .slice (some ⟨H, 0, none⟩) 1 1) (hlen : n + 1 ≤ 1048576) (hb : base ≤ W.heap.size)
    (h : ∀ g' cap' w', V1.EBuf base w' (some ⟨g', 0, none⟩) (n + 1) cap' (es ++ [(u, v)]) → (W.alloc (.cells #[.int .i64 u, .string v] 33)).grownBy w' (Value.slice p n cp).ownBlock → ((Value.slice p n cp).ownBlock = some g' ∨ g' = W.heap.size + 1) → wpList Try.prog ops Q rest (A.put o.dst (.slice (some ⟨g', 0, none⟩) (n + 1) cap')) w') : wpList Try.prog ops Q (o :: rest) A (W.alloc (.cells #[.int .i64 u, .string v] 33)) := by
  subst hH
  obtain ⟨i0, hi, hz0, hz1, hz2⟩ := info_parts T5.info33
  have hb2 := hbuf.alloc (.cells #[.int .i64 u, .string v] 33)
  refine wpList_append_lies _ hgd sl x 43 ho base 33 i0 (.agg #[.int .i64 0, .string ⟨#[]⟩]) 2 24 Try.underlying43 hi hz0 hz1 hz2 rfl (by omega) _ n _ hs hb2.2 ⟨W.heap.size, 0, none⟩ 1 1 [.int .i64 u, .string v] hx rfl (World.news_of_block (heap_alloc_new W _)) (V1.one_ent u v) (by omega) (by unfold maxLen; omega) (by omega) (by simp; omega) _ rfl ?_
  intro g' cap' w' ho' hg' hat _
  refine h g' cap' w' ⟨by rw [hbuf.1]; simp, ?_⟩ hg' (by simpa using hat)
  rw [← V1.flat_append]
  exact ho'

theorem ebuf_block {base n cp : Nat} {p : Option Addr} {W V : World} {es : List T0.Ent} (h : V1.EBuf base W p n cp es) (hk : ∀ g, (Value.slice p n cp).ownBlock = some g → V.heap[g]? = W.heap[g]?) : V1.EBuf base V p n cp es := by
  refine ⟨h.1, h.2.1, ?_⟩
  rcases h.2.2 with h0 | ⟨g, c, cur, hv, hbase, hc, hrest⟩
  · exact Or.inl h0
  · refine Or.inr ⟨g, c, cur, hv, hbase, ?_, hrest⟩
    rw [hk g (by rw [hv]; rfl)]
    exact hc

theorem ebuf_grown {base n cp c : Nat} {p : Option Addr} {W V : World} {es : List T0.Ent} (h : V1.EBuf base W p n cp es) (hg : W.grownBy V (some c)) (hc : c < base) : V1.EBuf base V p n cp es := by
  refine ⟨h.1, h.2.1, ?_⟩
  rcases h.2.2 with h0 | ⟨g, cc, cur, hv, hbase, hcur, hrest⟩
  · exact Or.inl h0
  · refine Or.inr ⟨g, cc, cur, hv, hbase, ?_, hrest⟩
    rw [hg.block g (Array.getElem?_eq_some_iff.1 hcur).1 (fun e => by have := Option.some.inj e; omega)]
    exact hcur

theorem ebuf_lt {base n cp g : Nat} {W : World} {es : List T0.Ent} (h : V1.EBuf base W (some ⟨g, 0, none⟩) n cp es) : base ≤ g ∧ g < W.heap.size := by
  have := h.2.lt g rfl
  exact ⟨this.1, by
    rcases h.2.2 with ⟨h0, _⟩ | ⟨g', c, cur, hv, hbase, hc, hrest⟩
    · cases h0
    · cases hv
      exact (Array.getElem?_eq_some_iff.1 hc).1⟩

/-- The entries so far, the names, an entry in its cells. -/
structure Ld (w0 w : World) (c : Nat) (a : Option Addr) (len cap N g n cp : Nat) (es : List T0.Ent) (W : World) : Prop where
  st : St w0 W c a len cap
  gr : w.grownBy W (some c)
  buf : V1.EBuf w.heap.size W (some ⟨g, 0, none⟩) n cp es
  nm : Of W N 6 IsTxt
  ne : N ≠ c ∧ N ≠ g ∧ c < w.heap.size

section
variable {w0 w W W' : World} {c : Nat} {a : Option Addr} {len cap N g n cp : Nat} {es : List T0.Ent}
theorem Of.below {w W : World} {l n : Nat} {Q : Value → Prop} (h : Of w l n Q) (hb : Below w.heap.size w W) : Of W l n Q :=
  ⟨Nat.lt_of_lt_of_le h.lt hb.size, fun j hj => by
    obtain ⟨v, hv, hc⟩ := h.cell j hj
    exact ⟨v, hv, (hb.cell (p := ⟨l, j, none⟩) h.lt).trans hc⟩⟩
theorem Ld.below (h : Ld w0 w c a len cap N g n cp es W) (hb : Below W.heap.size W W') : Ld w0 w c a len cap N g n cp es W' :=
  ⟨h.st.below hb, grown_below h.gr hb, h.buf.below hb, h.nm.below hb, h.ne⟩
theorem Ld.grown (h : Ld w0 w c a len cap N g n cp es W) (s : St w0 W' c a len cap) (hg : W.grownBy W' (some c)) : Ld w0 w c a len cap N g n cp es W' := by
  have hl := ebuf_lt h.buf
  have := h.ne.2.2
  exact ⟨s, grown_trans h.gr hg, ebuf_block h.buf (fun g' e => by cases e; exact hg.block g hl.2 (fun e => by have := Option.some.inj e; omega)), h.nm.grown hg h.ne.1, h.ne⟩
theorem Ld.set (h : Ld w0 w c a len cap N g n cp es W) {E j : Nat} {v : Value} (h1 : E ≠ c) (h2 : E ≠ g) (h3 : E ≠ N) (h4 : w.heap.size ≤ E) (h5 : w0.heap.size ≤ E) : Ld w0 w c a len cap N g n cp es (W.setCell ⟨E, j, none⟩ v) := by
  refine ⟨st_other h.st h1 h5 _, grown_setNew h.gr h4, ebuf_block h.buf (fun g' e => by cases e; exact Below.heap_setCell _ _ _ _ (Ne.symm h2)), ⟨by simpa using h.nm.lt, fun i hi => ?_⟩, h.ne⟩
  obtain ⟨x, hx, hc⟩ := h.nm.cell i hi
  exact ⟨x, hx, (World.cell?_setCell_other _ _ _ _ (fun e => h3 (Addr.mk.inj e).1)).trans hc⟩
theorem Ld.step (h : Ld w0 w c a len cap N g n cp es W) {u : Int} {v : ByteArray} {g' cap' : Nat} {w' : World} (hb : V1.EBuf w.heap.size w' (some ⟨g', 0, none⟩) (n + 1) cap' (es ++ [(u, v)])) (hg : (W.alloc (.cells #[.int .i64 u, .string v] 33)).grownBy w' (Value.slice (some ⟨g, 0, none⟩) n cp).ownBlock)
    (hw : (Value.slice (some ⟨g, 0, none⟩) n cp).ownBlock = some g' ∨ g' = W.heap.size + 1) (hn0 : w0.heap.size ≤ c) : Ld w0 w c a len cap N g' (n + 1) cap' (es ++ [(u, v)]) w' := by
  have hl := ebuf_lt h.buf
  have h2 := h.below (K0.below_new W (.cells #[.int .i64 u, .string v] 33))
  have hnl := h.nm.lt
  have hg2 : (W.alloc (.cells #[.int .i64 u, .string v] 33)).grownBy w' (some g) := hg
  have hne := h.ne
  refine ⟨h2.st.grown (g := g) hg2 (by omega) (by omega), grown_new h2.gr hg2 hl.1, hb, h2.nm.grown hg2 h.ne.2.1, h.ne.1, ?_, h.ne.2.2⟩
  rcases hw with e | e
  · cases e
    exact h.ne.2.1
  · omega
end

theorem names6 : ∀ v ∈ (#[Value.string ⟨#[97]⟩, Value.string ⟨#[98]⟩, Value.string ⟨#[99]⟩, Value.string ⟨#[100, 100]⟩, Value.string ⟨#[101, 46, 120]⟩, Value.string ⟨#[102]⟩] : Array Value).toList, IsTxt v := all_short (by rfl)

/-- Names that are short. -/
def Short (es : List T0.Ent) : Prop := ∀ e ∈ es, e.2.size ≤ 100

theorem short_snoc {es : List T0.Ent} {i : Int} {n : ByteArray} (h : Short es) (hn : n.size ≤ 100) : Short (es ++ [(i, n)]) := fun e he => by
  rcases List.mem_append.1 he with h1 | h1
  · exact h e h1
  · simp at h1
    subst h1
    exact hn

variable {w0 w : World} {c : Nat} {a : Option Addr} {len cap : Nat}

set_option maxHeartbeats 4000000 in
theorem l03Dir (hcode : Given w0 a len) (h : St w0 w c a len cap) (hlen : len ≤ 1048576) :
    Calls Try.prog 107 #[.pointer (some ⟨c, 0, none⟩)] w fun e w' => ∃ (p : Option Addr) (cp : Nat) (es : List T0.Ent), es.length ≤ 13 ∧ e = .returned (.slice p es.length cp) ∧ V1.OwnE w.heap.size w' p es ∧ es.length ≤ cp ∧ Short es ∧ St w0 w' c a len cap ∧ w.grownBy w' (some c) := by
  have hcl := h.cur.lt
  have hn0 := h.new
  have b0 := V1.ebuf_made (base := w.heap.size) w (Nat.le_refl _)
  have s0 := h.below (K0.below_new w (.cells #[] 33))
  have g0 : w.grownBy (w.alloc (.cells #[] 33)) (some c) := grown_of_below (K0.below_new w _)
  go_enter Try.func107, Try.ntmps107
  go_upto_if 12 with (first
    | (go_at_call 99; refine (below_any hcode s0 hlen 4 (by omega) (by omega)).mono ?_; rintro e w1 ⟨⟨m, m0, m1, rfl⟩, s1, g1⟩; have b1 := ebuf_grown b0 g1 hcl; have gr1 := grown_trans g0 g1)
    | (go_at_call 148; refine (once_any hcode s1 hlen 20 (by omega) (by omega)).mono ?_; rintro e w2 ⟨⟨b2, rfl⟩, s2, g2⟩; have b3 := ebuf_grown b1 g2 hcl; have gr2 := grown_trans gr1 g2))
  go_cut [4] (fun v wx => ∃ m2 : Int, 0 ≤ m2 ∧ m2 ≤ 13 ∧ v = .int .i64 m2 ∧ wx = w2)
  case first =>
    go_wp2
    · go_meet
      exact ⟨13, by omega, by omega, rfl, rfl⟩
    · go_meet
      exact ⟨m, m0, by omega, rfl, rfl⟩
  case rest =>
    obtain ⟨m2, m20, m21, rfl, rfl⟩ := hcut
    have hlt2 : w.heap.size < wc.heap.size := Nat.lt_of_lt_of_le (by simp) (Nat.le_trans g1.size g2.size)
    have ld0 : Ld w0 w c a len cap wc.heap.size w.heap.size 0 0 [] (wc.alloc (.cells #[.string ⟨#[97]⟩, .string ⟨#[98]⟩, .string ⟨#[99]⟩, .string ⟨#[100, 100]⟩, .string ⟨#[101, 46, 120]⟩, .string ⟨#[102]⟩] 9)) := ⟨s2.below (K0.below_new _ _), grown_below gr2 (K0.below_new _ _), b3.alloc _, Of.new wc _ 9 IsTxt (of_all names6), by omega, by omega, hcl⟩
    clear b0 s0 g0 s1 g1 b1 gr1 s2 g2 b3 gr2
    obtain ⟨N, hN⟩ : ∃ N, wc.heap.size = N := ⟨_, rfl⟩
    rw [hN] at ld0
    go_wp2
    try simp only [hN]
    clear hN hlt2
    go_loopw [3, 6] (fun v i W => ∃ (k g cp : Nat) (es : List T0.Ent), (k : Int) ≤ m2 ∧ es.length = k ∧ i = .int .i64 k ∧ v = .slice (some ⟨g, 0, none⟩) k cp ∧ Short es ∧ Ld w0 w c a len cap N g k cp es W) (fun _ i _ => m2.toNat - (intOf i).toNat)
    case atStart => exact ⟨0, w.heap.size, 0, [], m20, rfl, rfl, rfl, (fun e he => by cases he), ld0⟩
    case round =>
      obtain ⟨k, g, cp, es, hk, hel, rfl, rfl, hsh, hld⟩ := hrel
      clear ld0
      have hgl := ebuf_lt hld.buf
      have hNl := hld.nm.lt
      have hws := hld.gr.size
      by_cases hlt : (k : Int) < m2
      · obtain ⟨v, ⟨nm, hnm, rfl⟩, hcell⟩ := hld.nm.cell (k % 6) (by omega)
        obtain ⟨j, hj⟩ : ∃ j, k % 6 = j := ⟨_, rfl⟩
        obtain ⟨r, hr⟩ : ∃ r, k % 7 = r := ⟨_, rfl⟩
        rw [hj] at hcell
        have mA : Int.tmod (k : Int) 6 = (j : Int) := by rw [Int.tmod_eq_emod_of_nonneg (by omega)]; omega
        have mB : (k : Int) % 6 = (j : Int) := by omega
        have mC : Int.tmod (k : Int) 7 = (r : Int) := by rw [Int.tmod_eq_emod_of_nonneg (by omega)]; omega
        have mD : (k : Int) % 7 = (r : Int) := by omega
        have j0 : (0 : Int) ≤ (j : Int) := by omega
        have j6 : (j : Int) < 6 := by omega
        have r7 : (r : Int) < 7 := by omega
        have hwr : IntKind.i64.wrap (1 + (r : Int)) = 1 + (r : Int) := wrap_of _ (by omega) (by omega)
        have ld1 := hld.below (K0.below_new wr (.cells #[.int .i64 (1 + (r : Int)), .string nm] 33))
        have ke := K0.blk_new [.int .i64 (1 + (r : Int)), .string nm] wr 33
        clear hj hr
        go_wp2_with (first
          | (go_at_call 148; refine (once_any hcode ld1.st hlen 8 (by omega) (by omega)).mono ?_; rintro e w3 ⟨⟨b3, rfl⟩, s3, g3⟩; have ld3 := ld1.grown s3 g3; have ke3 := blk_grown ke g3 (by omega); have c0 := ke3.c0; have c1 := ke3.c1; have f0 := ke3.f0; have f1 := ke3.f1; have l3 := ld3.gr.size)
          | (go_at_call 93; refine (l03Entry hcode ld3.st hlen).mono ?_; rintro e w4 ⟨⟨i4, n4, wi4, hn4, rfl⟩, s4, g4⟩; have ld4 := ld3.grown s4 g4; have ke4 := blk_grown ke3 g4 (by omega); have d0 := ke4.c0; have d1 := ke4.c1; have d2 := ke4.f0; have d3 := ke4.f1; have ke5 := ke4.put2 (.int .i64 i4) (.string n4); have d4 := ke5.c0; have d5 := ke5.c1; have ld5 := (ld4.set (E := wr.heap.size) (j := 0) (v := .int .i64 i4) (by omega) (by omega) (by omega) (by omega) (by omega)).set (E := wr.heap.size) (j := 1) (v := .string n4) (by omega) (by omega) (by omega) (by omega) (by omega))
          | (at_builtin; have ld5' := ld5; refine append_ent2 rfl (.tmp 32) (.tmp 34) rfl ld5.buf i4 n4 rfl (H := w4.heap.size) (by simp) (by rfl) (by omega) ld5.gr.size ?_; intro g6 cap6 w6 b6 hg6 hw6; have ld6 := ld5.step b6 hg6 hw6 hn0)
          | (at_builtin; refine append_ent2 rfl (.tmp 32) (.tmp 34) rfl ld3.buf (1 + (r : Int)) nm rfl (H := w3.heap.size) rfl (by rfl) (by omega) ld3.gr.size ?_; intro g6 cap6 w6 b6 hg6 hw6; have ld6 := ld3.step b6 hg6 hw6 hn0))
        · go_roundw
          case rel => exact ⟨k + 1, g6, cap6, es ++ [(i4, n4)], by omega, by simp [hel], by go_num, rfl, short_snoc hsh hn4, ld6⟩
          case measure => simp [intOf]; omega
        · go_roundw
          case rel => exact ⟨k + 1, g6, cap6, es ++ [(1 + (r : Int), nm)], by omega, by simp [hel], by go_num, rfl, short_snoc hsh hnm, ld6⟩
          case measure => simp [intOf]; omega
      · go_wp2
        go_ret
        have hfit := hld.buf.fits
        exact ⟨some ⟨g, 0, none⟩, cp, es, by omega, by rw [hel]; rfl, hld.buf.own, by omega, hsh, hld.st, hld.gr⟩
end Go.Proofs.Ytacalabjclclhaa.C1

/- Contracts of spec.l03Mem and of the draws that laws.FnDir asks for: what is drawn lies in its bounds. -/
namespace Go.Proofs.Ytacalabjclclhaa.C1
open Go.ChangeShapes Go.WideShapes Go.ChangeAt Go.RowKit C0
set_option linter.unusedVariables false
set_option linter.unusedSimpArgs false
set_option maxRecDepth 10000
variable {w0 w : World} {c : Nat} {a : Option Addr} {len cap : Nat}

theorem putD_size (es : List T0.Ent) : (T0.putD es).size ≤ 192 := by
  unfold T0.putD
  split
  · rename_i h
    simp only [T0.dirOk, Bool.and_eq_true, decide_eq_true_eq] at h
    rw [T0.joined_size h.2 _ (Nat.le_refl _)]
    omega
  · exact Nat.zero_le _

theorem short_fits {es : List T0.Ent} (h : Short es) : T0.Fits es := fun j hj => by
  rw [T0.ent_get _ _ hj]
  have := h _ (List.getElem_mem hj)
  omega

theorem mWith {W : World} (s : ByteArray) (i : Int) (t : ByteArray) (hs : s.size = 768) (ht : t.size ≤ 1000) (h : St w0 W c a len cap) (g : w.grownBy W (some c)) :
    Calls Try.prog 116 #[.string s, .int .i64 i, .string t] W fun e w' => (∃ u : ByteArray, u.size = 768 ∧ e = .returned (.string u)) ∧ St w0 w' c a len cap ∧ w.grownBy w' (some c) :=
  (B5.spec_With s i t W (by omega) (by omega)).mono fun e w' ⟨he, n, hw⟩ => ⟨⟨_, (laid_size s i t).trans hs, he⟩, by rw [hw]; exact h.drewN n, by rw [hw]; exact grown_drewN g n⟩

theorem mPut {W : World} (k o s : Int) (p : Option Addr) (cp : Nat) (zs : List Int) (hn : zs.length ≤ 100) (hcp : zs.length ≤ cp) (hR : P0.Row W p zs) (h : St w0 W c a len cap) (g : w.grownBy W (some c)) :
    Calls Try.prog 29 #[I0.val k o s p zs.length cp] W fun e w' => (∃ u : ByteArray, u.size ≤ 1000 ∧ e = .returned (.string u)) ∧ St w0 w' c a len cap ∧ w.grownBy w' (some c) :=
  (R2.spec_PutInode k o s p cp zs W (by omega) hcp hR).mono fun e w' ⟨he, hb⟩ => ⟨⟨_, Nat.le_trans (R0.putI_size _ _ _ _) (by omega), he⟩, h.below hb, grown_below g hb⟩

theorem mRec {W : World} (i : Int) (h : St w0 W c a len cap) (g : w.grownBy W (some c)) :
    Calls Try.prog 37 #[.int .i64 i] W fun e w' => (∃ x : Int, e = .returned (.int .i64 x)) ∧ St w0 w' c a len cap ∧ w.grownBy w' (some c) :=
  (L1.spec_RecAt i W).mono fun e w' ⟨he, hb⟩ => ⟨⟨_, he⟩, by rw [hb]; exact h, by rw [hb]; exact g⟩

theorem row_new (W : World) (zs : List Int) (C : Array Value) (hC : C = (zs.map fun z => Value.int .i64 z).toArray) : P0.Row (W.alloc (.cells C 3)) (some ⟨W.heap.size, 0, none⟩) zs := by
  subst hC
  refine Or.inr ⟨W.heap.size, 0, rfl, by simp, fun j hj => ?_⟩
  rw [World.cell?_alloc_mark]
  simp [hj]

set_option maxHeartbeats 4000000 in
theorem l03Mem (hcode : Given w0 a len) (h : St w0 w c a len cap) (hlen : len ≤ 1048576) :
    Calls Try.prog 109 #[.pointer (some ⟨c, 0, none⟩)] w fun e w' => (∃ u : ByteArray, u.size ≤ 768 ∧ e = .returned (.string u)) ∧ St w0 w' c a len cap ∧ w.grownBy w' (some c) := by
  have hg0 : w.grownBy w (some c) := grown_refl _ _
  obtain ⟨z, hz⟩ : ∃ z, B4.zeros 768 = z := ⟨_, rfl⟩
  have hzs : z.size = 768 := by rw [← hz, B4.zeros, if_pos (by omega), B4.nulls_size]; rfl
  have HZ : Hid (∀ W, Calls Try.prog 101 #[.int .i64 768] W fun e w' => e = .returned (.string z) ∧ W = w') := fun W => (B4.spec_Zeros 768 W).mono fun _ _ ⟨he, hb⟩ => ⟨by rw [he, hz], hb.symm⟩
  have hlit : (⟨#[84, 78, 82, 49]⟩ : ByteArray).size ≤ 1000 := show 4 ≤ 1000 by omega
  have HP : Hid (Calls Try.prog 46 #[.slice (some ⟨w.heap.size, 0, none⟩) 2 2] (w.alloc (.cells #[.int .i64 1, .string ⟨#[97]⟩, .int .i64 2, .string ⟨#[98]⟩] 33)) fun e w' => (∃ u : ByteArray, u.size ≤ 1000 ∧ e = .returned (.string u)) ∧ St w0 w' c a len cap ∧ w.grownBy w' (some c)) :=
    (T3.spec_PutDir (some ⟨w.heap.size, 0, none⟩) 2 [(1, ⟨#[97]⟩), (2, ⟨#[98]⟩)] _ (by simp) (by simp) (fun j hj => by match j, hj with | 0, _ => exact (show 1 ≤ 281474976710656 by omega) | 1, _ => exact (show 1 ≤ 281474976710656 by omega)) (Or.inr ⟨w.heap.size, 0, rfl, by simp, fun j hj => by
      match j, hj with
      | 0, _ => exact ⟨by rw [World.cell?_alloc_mark]; rfl, by rw [World.cell?_alloc_mark]; rfl⟩
      | 1, _ => exact ⟨by rw [World.cell?_alloc_mark]; rfl, by rw [World.cell?_alloc_mark]; rfl⟩⟩)).mono fun e w' ⟨he, hb⟩ => ⟨⟨_, Nat.le_trans (putD_size _) (by omega), he⟩, (h.below (K0.below_new w _)).below hb, grown_below (grown_of_below (K0.below_new w _)) hb⟩
  clear hz
  go_enter Try.func109, Try.ntmps109
  go_wp2_with (first
    | (go_at_call 101; refine (HZ.out _).mono ?_; rintro e v1 ⟨rfl, rfl⟩)
    | (go_at_call 46; refine HP.out.mono ?_; rintro e vd ⟨⟨ud, hud, rfl⟩, sd, gd⟩)
    | (go_at_call 37; refine (mRec (w0 := w0) (w := w) _ (by assumption) (by assumption)).mono ?_; rintro e vr ⟨⟨xr, rfl⟩, sr, gr⟩)
    | (go_at_call 29; have i3 := i2; refine (mPut (w0 := w0) (w := w) _ _ _ none 0 [] (by simp) (by simp) (Or.inl rfl) sr gr).mono ?_; rintro e vp ⟨⟨up, hup, rfl⟩, sp, gp⟩)
    | (go_at_call 29; have i2 := i1; refine (mPut (w0 := w0) (w := w) _ _ _ _ _ [7, 6] (by simp) (by simp) (row_new vr [7, 6] _ rfl) (sr.below (K0.below_new _ _)) (grown_below gr (K0.below_new _ _))).mono ?_; rintro e vp ⟨⟨up, hup, rfl⟩, sp, gp⟩)
    | (go_at_call 29; have i1 : True := trivial; refine (mPut (w0 := w0) (w := w) _ _ _ _ _ [5] (by simp) (by simp) (row_new vr [5] _ rfl) (sr.below (K0.below_new _ _)) (grown_below gr (K0.below_new _ _))).mono ?_; rintro e vp ⟨⟨up, hup, rfl⟩, sp, gp⟩)
    | (go_at_call 116; refine (mWith (w0 := w0) (w := w) _ _ _ (by assumption) (by assumption) (by assumption) (by assumption)).mono ?_; rintro e vm ⟨⟨um, hum, rfl⟩, sm, gm⟩; have hum1 : (1 : Int) ≤ (um.size : Int) := (by omega))
    | (go_at_call 141; have bl' := bl; refine (bytes_int hcode sbl hlen 1 (by omega) (by omega)).mono ?_; rintro e vb ⟨⟨ub, hub, rfl⟩, sb, gb0⟩; have gb := grown_trans gbl gb0; have hub2 : ub.size ≤ 1000 := (by omega))
    | (go_at_call 141; refine (bytes_int hcode sm hlen 64 (by omega) (by omega)).mono ?_; rintro e vb ⟨⟨ub, hub, rfl⟩, sb, gb0⟩; have gb := grown_trans gm gb0; have hub2 : ub.size ≤ 1000 := (by omega))
    | (go_at_call 148; have o2 := o1; refine (once_any hcode (by assumption) hlen 20 (by omega) (by omega)).mono ?_; rintro e vo ⟨⟨bo2, rfl⟩, so2, go20⟩; have go2 : w.grownBy vo (some c) := (by first | exact grown_trans gm go20 | exact grown_trans go1 go20))
    | (go_at_call 148; have o1 : True := trivial; refine (once_any hcode sm hlen 4 (by omega) (by omega)).mono ?_; rintro e vo ⟨⟨bo, rfl⟩, so, go0⟩; have go1 := grown_trans gm go0)
    | (go_at_call 99; have bl : True := trivial; refine (below_any hcode so hlen 200 (by omega) (by omega)).mono ?_; rintro e vl ⟨⟨xl, xl0, xl1, rfl⟩, sbl, gl0⟩; have gbl := grown_trans go1 gl0))
  all_goals go_ret
  all_goals first
    | exact ⟨⟨_, by rw [ByteArray.size_extract]; omega, rfl⟩, so2, go2⟩
    | exact ⟨⟨_, by omega, rfl⟩, so2, go2⟩
end Go.Proofs.Ytacalabjclclhaa.C1

/- The contract of impl.Load, as the given laws call it. -/
namespace Go.Proofs.Ytacalabjclclhaa.O2
open Go.ChangeShapes Go.WideShapes Go.ChangeAt Go.RowKit
set_option linter.unusedVariables false
set_option linter.unusedSimpArgs false
set_option maxRecDepth 10000

open I0 (val vals)

/-- What Load answers. -/
def Ans (mem : ByteArray) (i : Int) (w : World) (e : Ending) (w' : World) : Prop :=
  ∃ a c, e = .returned (.tuple #[val (O0.lK mem i) (O0.lO mem i) (O0.lS mem i) a (O0.lZ mem i).length c, .string (O0.lD mem i), .bool (O0.isL mem i)]) ∧ J0.Own w.heap.size w' a (O0.lZ mem i) ∧ (O0.lZ mem i).length ≤ c ∧ Below w.heap.size w w'

theorem ans_no {mem : ByteArray} {i : Int} {w w' : World} (h : O0.isL mem i = false) (hb : Below w.heap.size w w') : Ans mem i w (.returned (.tuple #[val 0 0 0 none 0 0, .string ⟨#[]⟩, .bool false])) w' := by
  obtain ⟨h1, h2, h3, h4, h5⟩ := O0.l_no h
  exact ⟨none, 0, by rw [h1, h2, h3, h4, h5, h]; rfl, by rw [h4]; exact Or.inl rfl, by rw [h4]; exact Nat.le_refl _, hb⟩

theorem ans_yes {mem : ByteArray} {i : Int} {w w' : World} {a : Option Addr} {c : Nat} (h : O0.isL mem i = true) (ho : J0.Own w.heap.size w' a (G0.gZ (O0.recd mem i))) (hc : (G0.gZ (O0.recd mem i)).length ≤ c) (hb : Below w.heap.size w w') :
    Ans mem i w (.returned (.tuple #[val (G0.gK (O0.recd mem i)) (G0.gO (O0.recd mem i)) (G0.gS (O0.recd mem i)) a (G0.gZ (O0.recd mem i)).length c, .string ((O0.joined mem (G0.gZ (O0.recd mem i)) (G0.gZ (O0.recd mem i)).length).extract 0 (G0.gS (O0.recd mem i)).toNat), .bool true])) w' := by
  obtain ⟨h1, h2, h3, h4, h5⟩ := O0.l_yes h
  exact ⟨a, c, by rw [h1, h2, h3, h4, h5, h], by rw [h4]; exact ho, by rw [h4]; exact hc, hb⟩

/-- The record, read, where it is none's. -/
theorem read_yes {s : ByteArray} {W : World} (hs : s.size ≤ 281474976710656) (h : G0.isI s = true) {v : Value → Value} (hv : ∀ x, I1.rec (B1.byteAt s 0) x = v x) :
    Calls Try.prog 88 #[.string s] W fun e w' => ∃ a c, e = .returned (.tuple #[v (val (G0.gK s) (G0.gO s) (G0.gS s) a (G0.gZ s).length c), .bool true]) ∧ J0.Own W.heap.size w' a (G0.gZ s) ∧ (G0.gZ s).length ≤ c ∧ Below W.heap.size W w' := by
  obtain ⟨e1, e2, e3, e4⟩ := G0.g_yes h
  rw [e1, e2, e3, e4]
  exact G3.read_yes hs h hv

/-- The answer's block and the inode's own. -/
structure Ls (w : World) (B : Nat) (k o s : Int) (a : Option Addr) (zs : List Int) (c : Nat) (W : World) : Prop where
  rs : G3.Rs w a zs W
  nb : K0.Blk B (vals k o s a zs.length c) W
  ne : w.heap.size < B

variable {w W W' : World} {B : Nat} {k o s : Int} {a : Option Addr} {zs : List Int} {c : Nat}

theorem Ls.below (h : Ls w B k o s a zs c W) (hb : Below W.heap.size W W') : Ls w B k o s a zs c W' := ⟨h.rs.below hb, h.nb.below hb, h.ne⟩
theorem Ls.drew (h : Ls w B k o s a zs c W) : Ls w B k o s a zs c W.drew := ⟨⟨h.rs.res.drew, h.rs.own.drew, h.rs.bel.drew⟩, h.nb.drew, h.ne⟩
theorem ls_new (h : G3.Rs w a zs W) : Ls w W.heap.size k o s a zs c (W.alloc (.cells #[.int .i64 k, .int .i64 o, .int .i64 s, .slice a zs.length c] 26)) :=
  ⟨h.below (K0.below_new _ _), K0.blk_new (vals k o s a zs.length c) W 26, h.res.lt⟩

set_option maxHeartbeats 2000000 in
theorem load_kind (T : TypeId) (mem : ByteArray) (i : Int) (w : World) (hm : mem.size = 768) (hI : G0.isI (O0.recd mem i) = true) (hL : O0.isL mem i = true)
    (hT : ∀ x, I1.rec (B1.byteAt (O0.recd mem i) 0) x = .iface T x)
    (hF : ∀ k o s a n c W, Calls Try.prog 110 #[.iface T (val k o s a n c)] W fun e w' => e = .returned (.bool false) ∧ Below W.heap.size W w')
    (hO : ∀ k o s a n c W, Calls Try.prog 89 #[.iface T (val k o s a n c)] W fun e w' => e = .returned (val k o s a n c) ∧ Below W.heap.size W w') :
    Calls Try.prog 44 #[.string mem, .int .i64 i] w (Ans mem i w) := by
  have hms : mem.size ≤ 281474976710656 := by omega
  have g8 : ((mem.size : Int) != 768) = false := by simp; omega
  have hrs := O0.recd_size mem i hms
  have hg := O0.got hI
  have HF : Hid (∀ a c w', J0.Own w.heap.size w' a (G0.gZ (O0.recd mem i)) → (G0.gZ (O0.recd mem i)).length ≤ c → Below w.heap.size w w' → Ans mem i w (.returned (.tuple #[val (G0.gK (O0.recd mem i)) (G0.gO (O0.recd mem i)) (G0.gS (O0.recd mem i)) a (G0.gZ (O0.recd mem i)).length c, .string ((O0.joined mem (G0.gZ (O0.recd mem i)) (G0.gZ (O0.recd mem i)).length).extract 0 (G0.gS (O0.recd mem i)).toNat), .bool true])) w') := fun a c w' => ans_yes hL
  have hr : Hid (∀ W, Calls Try.prog 88 #[.string (O0.recd mem i)] W fun e w' => ∃ a c, e = .returned (.tuple #[.iface T (val (G0.gK (O0.recd mem i)) (G0.gO (O0.recd mem i)) (G0.gS (O0.recd mem i)) a (G0.gZ (O0.recd mem i)).length c), .bool true]) ∧ J0.Own W.heap.size w' a (G0.gZ (O0.recd mem i)) ∧ (G0.gZ (O0.recd mem i)).length ≤ c ∧ Below W.heap.size W w') := fun W => read_yes hrs hI hT
  have hpt : Hid (∀ W, Calls Try.prog 97 #[.string mem, .int .i64 (L1.recAt i), .int .i64 16] W fun e w' => e = .returned (.string (O0.recd mem i)) ∧ Below W.heap.size W w') := fun W => B2.impl_Part _ _ _ _ hms
  have hFF : Hid (∀ k o s a n c W, Calls Try.prog 110 #[.iface T (val k o s a n c)] W fun e w' => e = .returned (.bool false) ∧ Below W.heap.size W w') := hF
  have hOO : Hid (∀ k o s a n c W, Calls Try.prog 89 #[.iface T (val k o s a n c)] W fun e w' => e = .returned (val k o s a n c) ∧ Below W.heap.size W w') := hO
  clear hT hI hL hrs hF hO
  obtain ⟨R, hR⟩ : ∃ R, O0.recd mem i = R := ⟨_, rfl⟩
  rw [hR] at hg HF hr hpt
  obtain ⟨K, hK⟩ : ∃ K, G0.gK R = K := ⟨_, rfl⟩
  obtain ⟨O, hO⟩ : ∃ O, G0.gO R = O := ⟨_, rfl⟩
  obtain ⟨S, hS⟩ : ∃ S, G0.gS R = S := ⟨_, rfl⟩
  obtain ⟨Z, hZ⟩ : ∃ Z, G0.gZ R = Z := ⟨_, rfl⟩
  rw [hK, hO, hS, hZ] at HF hr
  rw [hK, hS, hZ] at hg
  obtain ⟨⟨s0, s1⟩, zl, s2, hp, -⟩ := hg
  clear hK hO hS hZ hR
  have hl0 := K0.below_new w (.cells #[.int .i64 0, .int .i64 0, .int .i64 0, .slice none 0 0] 26)
  go_enter Try.func44, Try.ntmps44
  go_wp2_with (first
    | (go_at_call 36; refine (L1.impl_RecAt _ _).mono ?_; rintro e w' ⟨rfl, rfl⟩)
    | (go_at_call 97; refine (hpt.out _).mono ?_; rintro e w1 ⟨rfl, b1⟩)
    | (go_at_call 88; refine (hr.out _).mono ?_; rintro e w2 ⟨a, c, rfl, ho, hc, b2⟩; have r2 : G3.Rs w a Z w2 := G3.rs_new (b1.trans (b2.mono b1.size)) (ho.mono b1.size))
    | (go_at_call 110; refine (hFF.out _ _ _ _ _ _ _).mono ?_; rintro e w3 ⟨rfl, b3⟩; have r3 := r2.below b3)
    | (go_at_call 89; refine (hOO.out _ _ _ _ _ _ _).mono ?_; rintro e w4 ⟨rfl, b4⟩; have r4 := r3.below b4; have l4 := ls_new (k := K) (o := O) (s := S) (c := c) r4))
  have l5 := l4.drew
  have hRd : P0.Row (w4.alloc (.cells #[.int .i64 K, .int .i64 O, .int .i64 S, .slice a Z.length c] 26)).drew a Z := l5.rs.own.row
  go_region_with ((go_at_call 111; refine (O1.dataOf mem _ _ _ _ _ Z _ hm hp zl s0 s2 hRd).mono ?_; rintro e w5 ⟨rfl, b5⟩; have l6 := l5.below b5; have x0 := l6.nb.c0; have x1 := l6.nb.c1; have x2 := l6.nb.c2; have x3 := l6.nb.c3; have c0 := l6.rs.res.c0; have c1 := l6.rs.res.c1; have c2 := l6.rs.res.c2; have c3 := l6.rs.res.c3; have f0 := l6.rs.res.f0; have f1 := l6.rs.res.f1; have f2 := l6.rs.res.f2; have f3 := l6.rs.res.f3))
  all_goals
    have q := l6.rs.res.put4 (.int .i64 K) (.int .i64 O) (.int .i64 S) (.slice a Z.length c)
    have d := l6.rs.done (.int .i64 K) (.int .i64 O) (.int .i64 S) (.slice a Z.length c)
    go_wp2
    exact bodyPost_ret (v := .tuple #[val K O S a Z.length c, .string ((O0.joined mem Z Z.length).extract 0 S.toNat), .bool true]) (by simp [results, Try.results44, go_sem, q.c0, q.c1, q.c2, q.c3]) rfl (HF.out _ _ _ d.1 hc d.2)
end Go.Proofs.Ytacalabjclclhaa.O2

/- The contracts of impl.Load and spec.Load, as the given laws call them. -/
namespace Go.Proofs.Ytacalabjclclhaa.O3
open Go.ChangeShapes Go.WideShapes Go.ChangeAt Go.RowKit
set_option linter.unusedVariables false
set_option linter.unusedSimpArgs false
set_option maxRecDepth 10000

open I0 (val vals)
open O2 (Ans ans_no ans_yes)

set_option maxHeartbeats 2000000 in
theorem impl_Load (mem : ByteArray) (i : Int) (w : World) (hms : mem.size ≤ 281474976710656) : Calls Try.prog 44 #[.string mem, .int .i64 i] w (Ans mem i w) := by
  have hrs := O0.recd_size mem i hms
  have hpt : Hid (∀ W, Calls Try.prog 97 #[.string mem, .int .i64 (L1.recAt i), .int .i64 16] W fun e w' => e = .returned (.string (O0.recd mem i)) ∧ Below W.heap.size W w') := fun W => B2.impl_Part _ _ _ _ hms
  have hl0 := K0.below_new w (.cells #[.int .i64 0, .int .i64 0, .int .i64 0, .slice none 0 0] 26)
  by_cases hm : mem.size = 768
  · have g8 : ((mem.size : Int) != 768) = false := by simp; omega
    by_cases hI : G0.isI (O0.recd mem i) = true
    · by_cases h0 : B1.byteAt (O0.recd mem i) 0 = 0
      · have HF : Hid (∀ w', Below w.heap.size w w' → Ans mem i w (.returned (.tuple #[val 0 0 0 none 0 0, .string ⟨#[]⟩, .bool false])) w') := fun w' => ans_no (O0.isL_free h0)
        have hr : Hid (∀ W, Calls Try.prog 88 #[.string (O0.recd mem i)] W fun e w' => ∃ a c, e = .returned (.tuple #[.iface 162 (val (G0.gK (O0.recd mem i)) (G0.gO (O0.recd mem i)) (G0.gS (O0.recd mem i)) a (G0.gZ (O0.recd mem i)).length c), .bool true]) ∧ J0.Own W.heap.size w' a (G0.gZ (O0.recd mem i)) ∧ (G0.gZ (O0.recd mem i)).length ≤ c ∧ Below W.heap.size W w') := fun W => O2.read_yes hrs hI (fun x => by rw [I1.rec, if_pos h0])
        clear hI h0
        go_enter Try.func44, Try.ntmps44
        go_wp2_with (first
          | (go_at_call 36; refine (L1.impl_RecAt _ _).mono ?_; rintro e w' ⟨rfl, rfl⟩)
          | (go_at_call 97; refine (hpt.out _).mono ?_; rintro e w1 ⟨rfl, b1⟩)
          | (go_at_call 88; refine (hr.out _).mono ?_; rintro e w2 ⟨a, c, rfl, ho, hc, b2⟩; have r2 : G3.Rs w a _ w2 := G3.rs_new (b1.trans (b2.mono b1.size)) (ho.mono b1.size))
          | (go_at_call 110; refine (G1.isFree0 _ _ _ _ _ _ _ rfl _).mono ?_; rintro e w3 ⟨rfl, b3⟩; have r3 := r2.below b3; have c0 := r3.res.c0; have c1 := r3.res.c1; have c2 := r3.res.c2; have c3 := r3.res.c3; have f0 := r3.res.f0; have f1 := r3.res.f1; have f2 := r3.res.f2; have f3 := r3.res.f3))
        have q := r3.res.put4 (.int .i64 0) (.int .i64 0) (.int .i64 0) (.slice none 0 0)
        have d := r3.done (.int .i64 0) (.int .i64 0) (.int .i64 0) (.slice none 0 0)
        exact bodyPost_ret (v := .tuple #[val 0 0 0 none 0 0, .string ⟨#[]⟩, .bool false]) (by simp [results, Try.results44, go_sem, q.c0, q.c1, q.c2, q.c3]) rfl (HF.out _ d.2)
      · have hL := O0.isL_of hm hI h0
        by_cases h1 : B1.byteAt (O0.recd mem i) 0 = 1
        · exact O2.load_kind 157 mem i w hm hI hL (fun x => by rw [I1.rec, if_neg h0, if_pos h1]) (fun k o s a n c W => G1.isFree1 _ k o s a n c rfl W) (fun k o s a n c W => G1.inodeOf1 k o s a n c W)
        · have h2 : B1.byteAt (O0.recd mem i) 0 = 2 := by
            have := R0.ok_bounds (G0.isI_ok hI).2.2
            omega
          exact O2.load_kind 159 mem i w hm hI hL (fun x => by rw [I1.rec, if_neg h0, if_neg h1, if_pos h2]) (fun k o s a n c W => G1.isFree2 _ k o s a n c rfl W) (fun k o s a n c W => G1.inodeOf2 k o s a n c W)
    · have hI' : G0.isI (O0.recd mem i) = false := by simpa using hI
      have HF : Hid (∀ w', Below w.heap.size w w' → Ans mem i w (.returned (.tuple #[val 0 0 0 none 0 0, .string ⟨#[]⟩, .bool false])) w') := fun w' => ans_no (O0.isL_rec hI')
      have hr : Hid (∀ W, Calls Try.prog 88 #[.string (O0.recd mem i)] W fun e w' => e = .returned (.tuple #[.nilIface, .bool false]) ∧ Below W.heap.size W w') := fun W => G3.read_no hrs hI'
      clear hI hI'
      go_enter Try.func44, Try.ntmps44
      go_wp2_with (first
        | (go_at_call 36; refine (L1.impl_RecAt _ _).mono ?_; rintro e w' ⟨rfl, rfl⟩)
        | (go_at_call 97; refine (hpt.out _).mono ?_; rintro e w1 ⟨rfl, b1⟩)
        | (go_at_call 88; refine (hr.out _).mono ?_; rintro e w2 ⟨rfl, b2⟩; have r2 : G3.Rs w none [] w2 := G3.rs_new (b1.trans (b2.mono b1.size)) (Or.inl rfl); have c0 := r2.res.c0; have c1 := r2.res.c1; have c2 := r2.res.c2; have c3 := r2.res.c3; have f0 := r2.res.f0; have f1 := r2.res.f1; have f2 := r2.res.f2; have f3 := r2.res.f3))
      have q := r2.res.put4 (.int .i64 0) (.int .i64 0) (.int .i64 0) (.slice none 0 0)
      have d := r2.done (.int .i64 0) (.int .i64 0) (.int .i64 0) (.slice none 0 0)
      exact bodyPost_ret (v := .tuple #[val 0 0 0 none 0 0, .string ⟨#[]⟩, .bool false]) (by simp [results, Try.results44, go_sem, q.c0, q.c1, q.c2, q.c3]) rfl (HF.out _ d.2)
  · have g8 : ((mem.size : Int) != 768) = true := by simp; omega
    have HF : Hid (∀ w', Below w.heap.size w w' → Ans mem i w (.returned (.tuple #[val 0 0 0 none 0 0, .string ⟨#[]⟩, .bool false])) w') := fun w' => ans_no (O0.isL_size hm)
    go_enter Try.func44, Try.ntmps44
    go_wp2
    refine bodyPost_ret (v := .tuple #[val 0 0 0 none 0 0, .string ⟨#[]⟩, .bool false]) (by simp [results, Try.results44, go_sem]) rfl (HF.out _ ?_)
    go_grown

open O2 (Ls ls_new)

set_option maxHeartbeats 4000000 in
theorem spec_Load (mem : ByteArray) (i : Int) (w : World) (hms : mem.size ≤ 281474976710656) : Calls Try.prog 45 #[.string mem, .int .i64 i] w (Ans mem i w) := by
  have hrs := O0.recd_size mem i hms
  have hG : Hid (∀ W, Calls Try.prog 22 #[.string (O0.recd mem i)] W (G3.Ans (O0.recd mem i) W)) := fun W => G4.spec_GetInode _ _ hrs
  have hRc : Hid (∀ W, Calls Try.prog 112 #[.string mem, .int .i64 i] W fun e w' => e = .returned (.string (O0.recd mem i)) ∧ w' = W) := fun W => O1.l03Rec mem i W hms
  by_cases hL : O0.isL mem i = true
  · have hl := hL
    simp only [O0.isL, Bool.and_eq_true, decide_eq_true_eq, Bool.not_eq_true'] at hl
    obtain ⟨hm, hI, hk⟩ := hl
    have hk' : ¬ B1.byteAt (O0.recd mem i) 0 = 0 := of_decide_eq_false hk
    have g8 : ((mem.size : Int) != 768) = false := by simp; omega
    have hg := O0.got hI
    have hK0 : (G0.gK (O0.recd mem i) == 0) = false := by
      rw [(G0.g_yes hI).1]
      simpa using hk'
    have HF : Hid (∀ a c w', J0.Own w.heap.size w' a (G0.gZ (O0.recd mem i)) → (G0.gZ (O0.recd mem i)).length ≤ c → Below w.heap.size w w' → Ans mem i w (.returned (.tuple #[val (G0.gK (O0.recd mem i)) (G0.gO (O0.recd mem i)) (G0.gS (O0.recd mem i)) a (G0.gZ (O0.recd mem i)).length c, .string ((O0.joined mem (G0.gZ (O0.recd mem i)) (G0.gZ (O0.recd mem i)).length).extract 0 (G0.gS (O0.recd mem i)).toNat), .bool true])) w') := fun a c w' => ans_yes hL
    have hA : Hid (∀ W e w', G3.Ans (O0.recd mem i) W e w' → ∃ a c, e = .returned (.tuple #[val (G0.gK (O0.recd mem i)) (G0.gO (O0.recd mem i)) (G0.gS (O0.recd mem i)) a (G0.gZ (O0.recd mem i)).length c, .bool true]) ∧ J0.Own W.heap.size w' a (G0.gZ (O0.recd mem i)) ∧ (G0.gZ (O0.recd mem i)).length ≤ c ∧ Below W.heap.size W w') := fun W e w' ⟨a, c, he, ho, hc, hb⟩ => ⟨a, c, by rw [he, hI], ho, hc, hb⟩
    clear hk hk' hL hI hrs
    obtain ⟨R, hR⟩ : ∃ R, O0.recd mem i = R := ⟨_, rfl⟩
    rw [hR] at hg HF hA hG hRc hK0
    obtain ⟨K, hK⟩ : ∃ K, G0.gK R = K := ⟨_, rfl⟩
    obtain ⟨O, hO⟩ : ∃ O, G0.gO R = O := ⟨_, rfl⟩
    obtain ⟨S, hS⟩ : ∃ S, G0.gS R = S := ⟨_, rfl⟩
    obtain ⟨Z, hZ⟩ : ∃ Z, G0.gZ R = Z := ⟨_, rfl⟩
    rw [hK, hO, hS, hZ] at HF hA
    rw [hK, hS, hZ] at hg
    rw [hK] at hK0
    obtain ⟨⟨s0, s1⟩, zl, s2, hp, -⟩ := hg
    clear hK hO hS hZ hR
    go_enter Try.func45, Try.ntmps45
    go_wp2_with (first
      | (go_at_call 112; refine (hRc.out _).mono ?_; rintro e w' ⟨rfl, rfl⟩)
      | (go_at_call 22; refine (hG.out _).mono ?_; intro e w1 hans; obtain ⟨a, c, rfl, ho, hc, b1⟩ := hA.out _ _ _ hans; clear hans; have r1 : G3.Rs w a Z w1 := G3.rs_new b1 ho; have l1 := ls_new (k := K) (o := O) (s := S) (c := c) r1))
    obtain ⟨W1, hW1⟩ : ∃ W1, w1.alloc (.cells #[.int .i64 K, .int .i64 O, .int .i64 S, .slice a Z.length c] 26) = W1 := ⟨_, rfl⟩
    rw [hW1] at l1 ⊢
    have x0 := l1.nb.c0
    have x1 := l1.nb.c1
    have x2 := l1.nb.c2
    have x3 := l1.nb.c3
    clear hW1 b1 ho r1
    go_loop [9, 10] (fun t j => ∃ k : Nat, k ≤ Z.length ∧ j = .int .i64 k ∧ t = .string (O0.joined mem Z k)) (fun _ j => Z.length - (intOf j).toNat)
    case atStart => exact ⟨0, Nat.zero_le _, rfl, rfl⟩
    case round =>
      obtain ⟨k, hk, rfl, rfl⟩ := hrel
      have hjs := O0.joined_size hm hp k hk
      by_cases hlt : k < Z.length
      · obtain ⟨b, off, rfl, hb, hcell⟩ := l1.rs.own.row.get hlt
        have y1 := hcell k hlt
        have hz := R0.pages_bounds hp hlt
        have hu : O0.joined mem Z (k + 1) = O0.joined mem Z k ++ B2.part mem (Z.getD k 0 * 32) 32 := rfl
        obtain ⟨z, ez⟩ : ∃ z, Z.getD k 0 = z := ⟨_, rfl⟩
        rw [ez] at y1 hz hu
        have hps := O0.page_size hm hz.1 hz.2
        have e1 : (0 : Int) ≤ (k : Int) := by omega
        have e2 : (k : Int) < (Z.length : Int) := by omega
        have zz : 32 * k + 32 ≤ 9223372036854775807 := by omega
        have hpg : Hid (∀ W, Calls Try.prog 113 #[.string mem, .int .i64 z] W fun e w' => e = .returned (.string (B2.part mem (z * 32) 32)) ∧ W = w') := fun W => (O1.l03Page mem z W hms hz.1 hz.2).mono fun _ _ h => ⟨h.1, h.2.symm⟩
        have HU : Hid (O0.joined mem Z (k + 1) = O0.joined mem Z k ++ B2.part mem (z * 32) 32) := hu
        clear hu ez hcell hz
        go_wp2_with (go_at_call 113; refine (hpg.out _).mono ?_; rintro e w' ⟨rfl, rfl⟩)
        go_round
        case rel => exact ⟨k + 1, by omega, by go_num, by rw [HU.out]⟩
        case measure => simp [intOf]; omega
      · obtain rfl : k = Z.length := by omega
        have i1 : S ≤ 32 * (Z.length : Int) := s2
        have c0 := l1.rs.res.c0
        have c1 := l1.rs.res.c1
        have c2 := l1.rs.res.c2
        have c3 := l1.rs.res.c3
        have f0 := l1.rs.res.f0
        have f1 := l1.rs.res.f1
        have f2 := l1.rs.res.f2
        have f3 := l1.rs.res.f3
        have i2 : S ≤ ((32 * Z.length : Nat) : Int) := by omega
        have hnb := (((l1.nb.setOther (B' := w.heap.size) (by have := l1.ne; omega) 0 (.int .i64 K)).setOther (B' := w.heap.size) (by have := l1.ne; omega) 1 (.int .i64 O)).setOther (B' := w.heap.size) (by have := l1.ne; omega) 2 (.int .i64 S)).setOther (B' := w.heap.size) (by have := l1.ne; omega) 3 (.slice a Z.length c)
        have y2 := hnb.c2
        clear hnb
        go_wp2
        go_region
        all_goals
          have q := l1.rs.res.put4 (.int .i64 K) (.int .i64 O) (.int .i64 S) (.slice a Z.length c)
          have d := l1.rs.done (.int .i64 K) (.int .i64 O) (.int .i64 S) (.slice a Z.length c)
          go_wp2
          refine bodyPost_ret (v := .tuple #[val K O S a Z.length c, .string ((O0.joined mem Z Z.length).extract 0 S.toNat), .bool true]) (by simp [results, Try.results45, go_sem, q.c0, q.c1, q.c2, q.c3]) rfl (HF.out _ _ _ ?_ hc ?_)
          · exact d.1.drew
          · exact d.2.drew
  · have hL' : O0.isL mem i = false := by simpa using hL
    have HF : Hid (∀ w', Below w.heap.size w w' → Ans mem i w (.returned (.tuple #[val 0 0 0 none 0 0, .string ⟨#[]⟩, .bool false])) w') := fun w' => ans_no hL'
    have hA : Hid (∀ W e w', G3.Ans (O0.recd mem i) W e w' → ∃ a c, e = .returned (.tuple #[val (G0.gK (O0.recd mem i)) (G0.gO (O0.recd mem i)) (G0.gS (O0.recd mem i)) a (G0.gZ (O0.recd mem i)).length c, .bool (G0.isI (O0.recd mem i))]) ∧ J0.Own W.heap.size w' a (G0.gZ (O0.recd mem i)) ∧ (G0.gZ (O0.recd mem i)).length ≤ c ∧ Below W.heap.size W w') := fun W e w' h => h
    have hcase : ((mem.size : Int) != 768) = true ∨ (((mem.size : Int) != 768) = false ∧ G0.isI (O0.recd mem i) = false) ∨ (((mem.size : Int) != 768) = false ∧ G0.isI (O0.recd mem i) = true ∧ (G0.gK (O0.recd mem i) == 0) = true) := by
      by_cases hm : mem.size = 768
      · right
        have g8 : ((mem.size : Int) != 768) = false := by simp; omega
        cases hI : G0.isI (O0.recd mem i) with
        | false => exact Or.inl ⟨g8, rfl⟩
        | true =>
          refine Or.inr ⟨g8, rfl, ?_⟩
          rw [(G0.g_yes hI).1]
          by_cases h0 : B1.byteAt (O0.recd mem i) 0 = 0
          · simpa using h0
          · rw [O0.isL_of hm hI h0] at hL'
            cases hL'
      · left
        simp
        omega
    clear hL hL' hrs
    obtain ⟨R, hR⟩ : ∃ R, O0.recd mem i = R := ⟨_, rfl⟩
    rw [hR] at hA hG hRc hcase
    obtain ⟨K, hK⟩ : ∃ K, G0.gK R = K := ⟨_, rfl⟩
    obtain ⟨O, hO⟩ : ∃ O, G0.gO R = O := ⟨_, rfl⟩
    obtain ⟨S, hS⟩ : ∃ S, G0.gS R = S := ⟨_, rfl⟩
    obtain ⟨Z, hZ⟩ : ∃ Z, G0.gZ R = Z := ⟨_, rfl⟩
    rw [hK, hO, hS, hZ] at hA
    rw [hK] at hcase
    clear hK hO hS hZ hR
    rcases hcase with g8 | ⟨g8, gI⟩ | ⟨g8, gI, gK⟩
    all_goals
      go_enter Try.func45, Try.ntmps45
      go_wp2_with (first
        | (go_at_call 112; refine (hRc.out _).mono ?_; rintro e w' ⟨rfl, rfl⟩)
        | (go_at_call 22; refine (hG.out _).mono ?_; intro e w1 hans; obtain ⟨a, c, rfl, ho, hc, b1⟩ := hA.out _ _ _ hans; clear hans; have r1 : G3.Rs w a Z w1 := G3.rs_new b1 ho; have l1 := ls_new (k := K) (o := O) (s := S) (c := c) r1; have x0 := l1.nb.c0; have c0 := l1.rs.res.c0; have c1 := l1.rs.res.c1; have c2 := l1.rs.res.c2; have c3 := l1.rs.res.c3; have f0 := l1.rs.res.f0; have f1 := l1.rs.res.f1; have f2 := l1.rs.res.f2; have f3 := l1.rs.res.f3))
      have q := l1.rs.res.put4 (.int .i64 0) (.int .i64 0) (.int .i64 0) (.slice none 0 0)
      have d := l1.rs.done (.int .i64 0) (.int .i64 0) (.int .i64 0) (.slice none 0 0)
      exact bodyPost_ret (v := .tuple #[val 0 0 0 none 0 0, .string ⟨#[]⟩, .bool false]) (by simp [results, Try.results45, go_sem, q.c0, q.c1, q.c2, q.c3]) rfl (HF.out _ d.2)
end Go.Proofs.Ytacalabjclclhaa.O3

/- Plain facts: an entry, an inode and a directory come back from their bytes. -/
namespace Go.Proofs.Ytacalabjclclhaa.Z0
open Go
set_option linter.unusedVariables false
set_option linter.unusedSimpArgs false
set_option maxRecDepth 10000

theorem byteAt_get (s : ByteArray) (k : Nat) : B1.byteAt s (k : Int) = ((s.data.toList.getD k 0).toNat : Int) := by
  have hs := Lib.size_eq s
  unfold B1.byteAt
  split
  · rename_i h
    have hk : k < s.data.toList.length := by omega
    rw [List.getD_eq_getElem?_getD, List.getElem?_eq_getElem hk]
    simp only [Int.toNat_natCast, Option.getD_some, Array.getElem_toList]
    rfl
  · rename_i h
    have hk : s.data.toList.length ≤ k := by omega
    rw [List.getD_eq_getElem?_getD, List.getElem?_eq_none hk]
    rfl

theorem ofNat_nat (n : Nat) (h : n < 256) : ((UInt8.ofNat n).toNat : Int) = (n : Int) := by
  have := B3.ofNat_int (n : Int) (by omega) (by omega)
  simpa using this

theorem putE_list {i : Int} {s : ByteArray} (h : E0.entryOk i s = true) : (E0.putE i s).data.toList = UInt8.ofNat i.toNat :: UInt8.ofNat s.size :: (s.data.toList ++ List.replicate (14 - s.size) 0) := by
  rw [E0.putE, if_pos h]
  simp [E0.headOf, B4.nulls, ByteArray.data_append]

theorem arr_ext {a b : ByteArray} (h : a.data.toList = b.data.toList) : a = b := ByteArray.ext (Array.toList_inj.1 h)

theorem entry_back {i : Int} {s : ByteArray} (h : E0.entryOk i s = true) : E4.ino (E0.putE i s) = i ∧ E4.name (E0.putE i s) = s := by
  obtain ⟨hn, hi⟩ := E0.entryOk_true h
  have hs := E0.nameOk_size hn
  have hl := putE_list h
  have hz := T0.putE_size16 h
  obtain ⟨p, hp⟩ : ∃ p, E0.putE i s = p := ⟨_, rfl⟩
  rw [hp] at hl hz ⊢
  have e1 : B1.byteAt p 1 = (s.size : Int) := by
    show B1.byteAt p ((1 : Nat) : Int) = _
    rw [byteAt_get, hl]
    exact ofNat_nat s.size (by omega)
  refine ⟨?_, ?_⟩
  · show B1.byteAt p ((0 : Nat) : Int) = i
    rw [byteAt_get, hl]
    exact B3.ofNat_int i (by omega) (by omega)
  · rw [E4.name, e1, B2.part, show B2.lies p.size 2 (s.size : Int) = true from decide_eq_true (by omega), if_pos rfl]
    apply arr_ext
    have hsz := Lib.size_eq s
    rw [Lib.extract_data, hl, show (2 : Int).toNat = 2 from rfl, show (2 + (s.size : Int)).toNat - 2 = s.data.toList.length by omega]
    simp

theorem isE_put {i : Int} {s : ByteArray} (h : E0.entryOk i s = true) : E4.isE (E0.putE i s) = true ∧ E4.eIno (E0.putE i s) = i ∧ E4.eName (E0.putE i s) = s := by
  obtain ⟨h1, h2⟩ := entry_back h
  have hE : E4.isE (E0.putE i s) = true := by
    rw [E4.isE, h1, h2, T0.putE_size16 h]
    simp
  refine ⟨hE, ?_, ?_⟩
  · rw [E4.eIno, if_pos hE, h1]
  · rw [E4.eName, if_pos hE, h2]

theorem putI_list {k o s : Int} {zs : List Int} (h : I0.ok k o s zs = true) : (R0.putI k o s zs).data.toList = UInt8.ofNat k.toNat :: UInt8.ofNat o.toNat :: UInt8.ofNat (s % 256).toNat :: UInt8.ofNat (s / 256).toNat :: (zs.map (fun z => UInt8.ofNat z.toNat) ++ List.replicate (12 - zs.length) 0) := by
  obtain ⟨_, _, hs, _, _, _⟩ := R0.ok_bounds h
  rw [R0.putI, if_pos h]
  simp [R0.head, R0.two, R0.pg, B3.pair, show B1.inB s 0 65535 = true from decide_eq_true (by omega), B4.nulls, ByteArray.data_append]

theorem putI_size16 {k o s : Int} {zs : List Int} (h : I0.ok k o s zs = true) : (R0.putI k o s zs).size = 16 := by
  obtain ⟨_, _, hs, hl, _, _⟩ := R0.ok_bounds h
  rw [Lib.size_eq, putI_list h]
  simp
  omega

theorem pairAt_get (s : ByteArray) (k : Nat) (h : k + 1 < s.size) : B6.pairAt s (k : Int) = ((s.data.toList.getD k 0).toNat : Int) + 256 * ((s.data.toList.getD (k + 1) 0).toNat : Int) := by
  have h0 := byteAt_get s k
  have h1 := byteAt_get s (k + 1)
  rw [← h0, ← h1]
  unfold B6.pairAt B1.byteAt
  rw [dif_pos (by omega), dif_pos (by omega), dif_pos (by omega)]
  rfl

theorem inode_back {k o s : Int} {zs : List Int} (h : I0.ok k o s zs = true) : B1.byteAt (R0.putI k o s zs) 0 = k ∧ B1.byteAt (R0.putI k o s zs) 1 = o ∧ B6.pairAt (R0.putI k o s zs) 2 = s ∧ G0.pgs (R0.putI k o s zs) (G0.cnt (R0.putI k o s zs)) = zs := by
  obtain ⟨hk, ho, hs, hl, hn, hp⟩ := R0.ok_bounds h
  have hL := putI_list h
  have hz := putI_size16 h
  obtain ⟨p, hpe⟩ : ∃ p, R0.putI k o s zs = p := ⟨_, rfl⟩
  rw [hpe] at hL hz ⊢
  have e2 : B6.pairAt p 2 = s := by
    show B6.pairAt p ((2 : Nat) : Int) = _
    rw [pairAt_get p 2 (by omega), hL]
    have a1 := B3.ofNat_int (s % 256) (by omega) (by omega)
    have a2 := B3.ofNat_int (s / 256) (by omega) (by omega)
    show ((UInt8.ofNat (s % 256).toNat).toNat : Int) + 256 * ((UInt8.ofNat (s / 256).toNat).toNat : Int) = s
    rw [a1, a2]
    omega
  refine ⟨?_, ?_, e2, ?_⟩
  · show B1.byteAt p ((0 : Nat) : Int) = _
    rw [byteAt_get, hL]
    exact B3.ofNat_int k (by omega) (by omega)
  · show B1.byteAt p ((1 : Nat) : Int) = _
    rw [byteAt_get, hL]
    exact B3.ofNat_int o (by omega) (by omega)
  · have hc : G0.cnt p = zs.length := by
      unfold G0.cnt
      rw [e2, ← hn]
      omega
    rw [hc]
    apply List.ext_getElem
    · rw [G0.pgs_length]
    · intro j h1 h2
      simp only [G0.pgs, List.getElem_map, List.getElem_range]
      have hb := R0.pages_bounds hp (k := j) h2
      have hg := P0.getD_get zs j h2
      rw [show (4 : Int) + (j : Int) = ((j + 4 : Nat) : Int) by omega, byteAt_get, hL]
      have : (UInt8.ofNat k.toNat :: UInt8.ofNat o.toNat :: UInt8.ofNat (s % 256).toNat :: UInt8.ofNat (s / 256).toNat :: (zs.map (fun z => UInt8.ofNat z.toNat) ++ List.replicate (12 - zs.length) 0)).getD (j + 4) 0 = UInt8.ofNat (zs[j]).toNat := by
        simp [List.getD_eq_getElem?_getD, List.getElem?_append, h2]
      rw [this]
      rw [hg] at hb
      exact B3.ofNat_int _ (by omega) (by omega)

theorem isI_put {k o s : Int} {zs : List Int} (h : I0.ok k o s zs = true) : G0.isI (R0.putI k o s zs) = true ∧ G0.gK (R0.putI k o s zs) = k ∧ G0.gO (R0.putI k o s zs) = o ∧ G0.gS (R0.putI k o s zs) = s ∧ G0.gZ (R0.putI k o s zs) = zs := by
  obtain ⟨h1, h2, h3, h4⟩ := inode_back h
  have hI : G0.isI (R0.putI k o s zs) = true := by
    rw [G0.isI, G0.txt, h1, h2, h3, h4, putI_size16 h]
    simp
  refine ⟨hI, ?_, ?_, ?_, ?_⟩
  · rw [G0.gK, if_pos hI, h1]
  · rw [G0.gO, if_pos hI, h2]
  · rw [G0.gS, if_pos hI, h3]
  · rw [G0.gZ, if_pos hI, h4]

theorem putI_get {s : ByteArray} (h : G0.isI s = true) : R0.putI (G0.gK s) (G0.gO s) (G0.gS s) (G0.gZ s) = s := by
  have h2 := (G0.isI_ok h).2.1
  rw [G0.gK, G0.gO, G0.gS, G0.gZ, if_pos h, if_pos h, if_pos h, if_pos h]
  exact V0.toList_eq h2

theorem putE_get {s : ByteArray} (h : E4.isE s = true) : E0.putE (E4.eIno s) (E4.eName s) = s := V0.isE_eq h

theorem putD_get {s : ByteArray} (h : V0.isD s = true) : T0.putD (V0.dE s) = s := by
  obtain ⟨h1, h2, hc, hE, hD⟩ := V0.of_isD h
  rw [V0.dE, if_pos h, hc, T0.putD, if_pos hD, V0.ents_length, V0.joined_ext s _ hE _ (Nat.le_refl _) (by omega), show s.size / 16 * 16 = s.size by omega]
  exact V0.ext_all s

theorem ext_front (a b : ByteArray) (i j : Nat) (h : j ≤ a.size) : (a ++ b).extract i j = a.extract i j := by
  apply arr_ext
  have := Lib.size_eq a
  rw [Lib.extract_data, Lib.extract_data, ByteArray.data_append, Array.toList_append]
  by_cases hi : i ≤ j
  · rw [List.drop_append_of_le_length (by omega), List.take_append_of_le_length (by simp; omega)]
  · rw [show j - i = 0 by omega]
    simp

theorem ext_back (a b : ByteArray) (n m : Nat) (h : n = a.size) (hm : m = a.size + b.size) : (a ++ b).extract n m = b := by
  apply arr_ext
  have h1 := Lib.size_eq a
  have h2 := Lib.size_eq b
  rw [Lib.extract_data, ByteArray.data_append, Array.toList_append, h, h1, List.drop_left, List.take_of_length_le (by omega)]

theorem joined_chunk {es : List T0.Ent} {n : Nat} (h : T0.okUpto es n = true) : ∀ k, k ≤ n → ∀ j, j < k → (T0.joined es k).extract (j * 16) (j * 16 + 16) = E0.putE (T0.ent es j).1 (T0.ent es j).2
  | 0, _, j, hj => absurd hj (Nat.not_lt_zero _)
  | k + 1, hk, j, hj => by
    have hs := T0.joined_size h k (by omega)
    have hE := (T0.okAt_entry (T0.okUpto_at h (by omega : k < n))).1
    rw [T0.joined]
    by_cases hjk : j < k
    · rw [ext_front _ _ _ _ (by omega)]
      exact joined_chunk h k (by omega) j hjk
    · obtain rfl : j = k := by omega
      exact ext_back _ _ _ _ (by omega) (by rw [T0.putE_size16 hE]; omega)

theorem dir_back {es : List T0.Ent} (h : T0.dirOk es = true) : (T0.putD es).size = es.length * 16 ∧ V0.isD (T0.putD es) = true ∧ V0.dE (T0.putD es) = es := by
  have hd := h
  simp only [T0.dirOk, Bool.and_eq_true, decide_eq_true_eq] at hd
  have hz : (T0.putD es).size = es.length * 16 := by
    rw [T0.putD, if_pos h, T0.joined_size hd.2 _ (Nat.le_refl _)]
    omega
  have hq : (T0.putD es).size / 16 = es.length := by omega
  have hch : ∀ j, j < es.length → V0.chunk (T0.putD es) j = E0.putE (T0.ent es j).1 (T0.ent es j).2 := by
    intro j hj
    rw [V0.chunk_eq _ _ (by omega), T0.putD, if_pos h]
    exact joined_chunk hd.2 _ (Nat.le_refl _) j hj
  have hok : ∀ j, j < es.length → E0.entryOk (T0.ent es j).1 (T0.ent es j).2 = true := fun j hj => (T0.okAt_entry (T0.okUpto_at hd.2 hj)).1
  have hents : V0.ents (T0.putD es) es.length = es := by
    apply List.ext_getElem
    · rw [V0.ents_length]
    · intro j h1 h2
      have e := V0.ents_get (T0.putD es) es.length j h2
      rw [T0.ent_get _ _ h1] at e
      rw [e, hch j h2, (isE_put (hok j h2)).2.1, (isE_put (hok j h2)).2.2, T0.ent_get es j h2]
  have hI := V0.isD_of (s := T0.putD es) (by omega) (by omega) (fun j hj => by rw [hq] at hj; rw [hch j hj]; exact (isE_put (hok j hj)).1) (by rw [hq, hents]; exact h)
  refine ⟨hz, hI.1, ?_⟩
  rw [V0.dE, if_pos hI.1, hI.2, hq, hents]
end Go.Proofs.Ytacalabjclclhaa.Z0

/- The draws of laws.FnDir, and the laws' own comparisons over entries, numbers and inodes. -/
namespace Go.Proofs.Ytacalabjclclhaa.C1
open Go.ChangeShapes Go.WideShapes Go.ChangeAt Go.RowKit C0
set_option linter.unusedVariables false
set_option linter.unusedSimpArgs false
set_option maxRecDepth 10000
variable {w : World} {a : Option Addr} {len cap : Nat}

theorem draw_PutDir (hcode : Given w a len) (hlen : len ≤ 1048576) :
    Calls Try.prog 38 #[.slice a len cap] w fun e w' => ∃ (p : Option Addr) (cp : Nat) (es : List T0.Ent), es.length ≤ 13 ∧ e = .returned (.slice p es.length cp) ∧ T0.Row w' p es ∧ es.length ≤ cp ∧ Short es ∧ Below w.heap.size w w' := by
  go_enter Try.func38, Try.ntmps38
  go_wp2_with (first
    | (go_at_call 85; refine (new_any hcode hlen).mono ?_; rintro e w1 ⟨c, rfl, s1⟩)
    | (go_at_call 107; refine (l03Dir hcode s1 hlen).mono ?_; rintro e w2 ⟨p, cp, es, hel, rfl, ho, hcp, hsh, s2, g2⟩))
  go_ret
  exact ⟨p, cp, es, hel, rfl, ho.row, hcp, hsh, s2.bel⟩

theorem draw_GetDir (hcode : Given w a len) (hlen : len ≤ 1048576) :
    Calls Try.prog 40 #[.slice a len cap] w fun e w' => ∃ s : ByteArray, s.size ≤ 100100 ∧ e = .returned (.string s) ∧ Below w.heap.size w w' := by
  go_enter Try.func40, Try.ntmps40
  go_wp2_with (first
    | (go_at_call 85; refine (new_any hcode hlen).mono ?_; rintro e w1 ⟨c, rfl, s1⟩)
    | (go_at_call 107; refine (l03Dir hcode s1 hlen).mono ?_; rintro e w2 ⟨p, cp, es, hel, rfl, ho, hcp, hsh, s2, g2⟩)
    | (go_at_call 46; refine (T3.spec_PutDir p cp es _ (by omega) hcp (short_fits hsh) ho.row).mono ?_; rintro e w3 ⟨rfl, b3⟩; have s3 := s2.below b3; have hd := putD_size es)
    | (go_at_call 87; refine (l03Spoil hcode s3 hlen _ (by omega)).mono ?_; rintro e w4 ⟨⟨t, ht, rfl⟩, s4, g4⟩))
  go_ret
  exact ⟨t, ht, rfl, s4.bel⟩

theorem draw_Load (hcode : Given w a len) (hlen : len ≤ 1048576) :
    Calls Try.prog 43 #[.slice a len cap] w fun e w' => ∃ (s : ByteArray) (i : Int), s.size ≤ 768 ∧ e = .returned (.tuple #[.string s, .int .i64 i]) ∧ Below w.heap.size w w' := by
  go_enter Try.func43, Try.ntmps43
  go_wp2_with (first
    | (go_at_call 85; refine (new_any hcode hlen).mono ?_; rintro e w1 ⟨c, rfl, s1⟩)
    | (go_at_call 109; refine (l03Mem hcode s1 hlen).mono ?_; rintro e w2 ⟨⟨u, hu, rfl⟩, s2, g2⟩)
    | (go_at_call 99; refine (below_any hcode s2 hlen 5 (by omega) (by omega)).mono ?_; rintro e w3 ⟨⟨x, x0, x1, rfl⟩, s3, g3⟩))
  go_ret2
  exact ⟨u, _, hu, rfl, s3.bel⟩
end Go.Proofs.Ytacalabjclclhaa.C1

namespace Go.Proofs.Ytacalabjclclhaa.S0
open Go.ChangeShapes Go.WideShapes Go.ChangeAt Go.RowKit
set_option linter.unusedVariables false
set_option linter.unusedSimpArgs false
set_option maxRecDepth 10000

theorem sameInts (a1 a2 : Option Addr) (c1 c2 : Nat) (zs : List Int) (w : World) (hn : zs.length ≤ 281474976710656) (h1 : P0.Row w a1 zs) (h2 : P0.Row w a2 zs) :
    Calls Try.prog 102 #[.slice a1 zs.length c1, .slice a2 zs.length c2] w fun e w' => e = .returned (.bool true) ∧ ∃ n, w' = w.drewN n := by
  go_enter Try.func102, Try.ntmps102
  go_wp2
  go_loopw [5] (fun i w' => ∃ k n : Nat, k ≤ zs.length ∧ w' = w.drewN n ∧ i = .int .i64 k) (fun i _ => zs.length - (intOf i).toNat)
  case atStart => exact ⟨0, 0, Nat.zero_le _, rfl, rfl⟩
  case round =>
    obtain ⟨k, n, hk, rfl, rfl⟩ := hrel
    by_cases hlt : k < zs.length
    · have e1 : (0 : Int) ≤ (k : Int) := by omega
      have e2 : (k : Int) < (zs.length : Int) := by omega
      obtain ⟨b1, off1, rfl, hb1, hc1⟩ := h1.get hlt
      obtain ⟨b2, off2, rfl, hb2, hc2⟩ := h2.get hlt
      have x1 := hc1 k hlt
      have x2 := hc2 k hlt
      obtain ⟨z, ez⟩ : ∃ z, zs.getD k 0 = z := ⟨_, rfl⟩
      rw [ez] at x1 x2
      clear ez hc1 hc2 h1 h2
      go_wp2
      go_quiet (fail)
      go_wp2
      go_roundw
      case rel => exact ⟨k + 1, _, by omega, rfl, by go_num⟩
      case measure => simp [intOf]; omega
    · clear h1 h2
      go_wp2
      go_ret
      exact ⟨rfl, _, rfl⟩

set_option maxHeartbeats 2000000 in
theorem sameEntries (a1 a2 : Option Addr) (c1 c2 : Nat) (es : List T0.Ent) (w : World) (hn : es.length ≤ 1048576) (h1 : T0.Row w a1 es) (h2 : T0.Row w a2 es) :
    Calls Try.prog 47 #[.slice a1 es.length c1, .slice a2 es.length c2] w fun e w' => e = .returned (.bool true) ∧ ∃ n, w' = w.drewN n := by
  go_enter Try.func47, Try.ntmps47
  go_wp2
  go_loopw [5] (fun i w' => ∃ k n : Nat, k ≤ es.length ∧ w' = w.drewN n ∧ i = .int .i64 k) (fun i _ => es.length - (intOf i).toNat)
  case atStart => exact ⟨0, 0, Nat.zero_le _, rfl, rfl⟩
  case round =>
    obtain ⟨k, n, hk, rfl, rfl⟩ := hrel
    by_cases hlt : k < es.length
    · have e1 : (0 : Int) ≤ (k : Int) := by omega
      have e2 : (k : Int) < (es.length : Int) := by omega
      obtain ⟨b1, off1, rfl, hb1, hc1⟩ := h1.get hlt
      obtain ⟨b2, off2, rfl, hb2, hc2⟩ := h2.get hlt
      have x1 := (hc1 k hlt).1
      have x2 := (hc1 k hlt).2
      have x3 := (hc2 k hlt).1
      have x4 := (hc2 k hlt).2
      obtain ⟨z, ez⟩ : ∃ z, T0.ent es k = z := ⟨_, rfl⟩
      rw [ez] at x1 x2 x3 x4
      obtain ⟨u, v⟩ := z
      simp only at x1 x2 x3 x4
      clear ez hc1 hc2 h1 h2
      go_wp2
      go_quiet (fail)
      go_wp2
      go_roundw
      case rel => exact ⟨k + 1, _, by omega, rfl, by go_num⟩
      case measure => simp [intOf]; omega
    · clear h1 h2
      go_wp2
      go_ret
      exact ⟨rfl, _, rfl⟩

set_option maxHeartbeats 2000000 in
theorem sameInode (k o s : Int) (a1 a2 : Option Addr) (c1 c2 : Nat) (zs : List Int) (w : World) (hn : zs.length ≤ 1048576) (h1 : P0.Row w a1 zs) (h2 : P0.Row w a2 zs) :
    Calls Try.prog 30 #[I0.val k o s a1 zs.length c1, I0.val k o s a2 zs.length c2] w fun e w' => e = .returned (.bool true) ∧ Below w.heap.size w w' := by
  have k1 := (K0.blk_new (I0.vals k o s a1 zs.length c1) w 26).alloc (.cells #[.int .i64 k, .int .i64 o, .int .i64 s, .slice a2 zs.length c2] 26)
  have k2 := K0.blk_at (I0.vals k o s a2 zs.length c2) (w.alloc (.cells #[.int .i64 k, .int .i64 o, .int .i64 s, .slice a1 zs.length c1] 26)) 26 (World.size_alloc _ _)
  have l0 := (K0.below_new w (.cells #[.int .i64 k, .int .i64 o, .int .i64 s, .slice a1 zs.length c1] 26)).alloc (by simp) (.cells #[.int .i64 k, .int .i64 o, .int .i64 s, .slice a2 zs.length c2] 26)
  have r1 := h1.below l0
  have r2 := h2.below l0
  have x0 := k1.c0
  have x1 := k1.c1
  have x2 := k1.c2
  have x3 := k1.c3
  have y0 := k2.c0
  have y1 := k2.c1
  have y2 := k2.c2
  have y3 := k2.c3
  go_enter Try.func30, Try.ntmps30
  go_wp2_with (go_at_call 102; refine (sameInts a1 a2 c1 c2 zs _ (by omega) r1 r2).mono ?_; rintro e w3 ⟨rfl, n, rfl⟩)
  go_ret
  exact ⟨rfl, K0.below_drewN l0 n⟩

theorem load_size {mem : ByteArray} {i : Int} (h : O0.isL mem i = true) : ((O0.lD mem i).size : Int) = O0.lS mem i := by
  have hl := h
  simp only [O0.isL, Bool.and_eq_true, decide_eq_true_eq] at hl
  obtain ⟨_, _, h3, _, h5⟩ := O0.l_yes h
  obtain ⟨⟨g0, g1⟩, g2, g3, g4, _⟩ := O0.got hl.2.1
  have hj := O0.joined_size hl.1 g4 _ (Nat.le_refl _)
  rw [h3, h5, ByteArray.size_extract, hj]
  omega
end Go.Proofs.Ytacalabjclclhaa.S0
