/- The contract of spec.l03Dir: some entries; the cursor stays one. -/
import Derived.Test.YtifddipnboifnaaDz1
import Derived.Test.YtifddipnboifnaaGdr1
namespace Go.Proofs.Ytifddipnboifnaa.C1
open Go.ChangeShapes Go.WideShapes Go.ChangeAt Go.RowKit C0
set_option linter.unusedVariables false
set_option linter.unusedSimpArgs false
set_option maxRecDepth 10000

/-- 'list = append(list, e)', the cursor beside it. -/
theorem append_ent2 {base n cp : Nat} {p : Option Addr} {W : World} {es : List T0.Ent} {ops : Array Oper} {rest : List Oper} {o : Oper} {A : Act} {Q : Exit → Act → World → Prop} (hgd : o.guard = none) (sl x : Operand)
    (ho : o.op = .call { callee := .builtin .append, args := #[sl, x], argTypes := #[43, 43] })
    (hbuf : V1.EBuf base W p n cp es) (u : Int) (v : ByteArray) (hs : A.eval sl = .slice p n cp) {H : Nat} (hH : W.heap.size = H) (hx : A.eval x = .slice (some ⟨H, 0, none⟩) 1 1) (hlen : n + 1 ≤ 1048576) (hb : base ≤ W.heap.size)
    (h : ∀ g' cap' w', V1.EBuf base w' (some ⟨g', 0, none⟩) (n + 1) cap' (es ++ [(u, v)]) → (W.alloc (.cells #[.int .i64 u, .string v] 33)).grownBy w' (Value.slice p n cp).ownBlock → ((Value.slice p n cp).ownBlock = some g' ∨ g' = W.heap.size + 1) → wpList Try.prog ops Q rest (A.put o.dst (.slice (some ⟨g', 0, none⟩) (n + 1) cap')) w') : wpList Try.prog ops Q (o :: rest) A (W.alloc (.cells #[.int .i64 u, .string v] 33)) := by
  subst hH
  obtain ⟨i0, hi, hz0, hz1, hz2⟩ := info_parts T5.info33
  have hb2 := hbuf.alloc (.cells #[.int .i64 u, .string v] 33)
  refine wpList_append_lies _ hgd sl x 43 ho base 33 i0 (.agg #[.int .i64 0, .string ⟨#[]⟩]) 2 24 Try.underlying43 hi hz0 hz1 hz2 rfl (by omega) _ n _ hs hb2.2 ⟨W.heap.size, 0, none⟩ 1 1 [.int .i64 u, .string v] hx rfl (World.news_of_block (heap_alloc_new W _)) (V1.one_ent u v) (by omega) (by unfold maxLen; omega) (by omega) (by simp; omega) _ rfl ?_
  intro g' cap' w' ho' hg' hat _
  refine h g' cap' w' ⟨by rw [hbuf.1]; simp, ?_⟩ hg' (by simpa using hat)
  rw [← V1.flat_append]
  exact ho'

theorem ebuf_block {base n cp : Nat} {p : Option Addr} {W V : World} {es : List T0.Ent} (h : V1.EBuf base W p n cp es) (hk : ∀ g, (Value.slice p n cp).ownBlock = some g → V.heap[g]? = W.heap[g]?) : V1.EBuf base V p n cp es := by
  refine ⟨h.1, h.2.1, ?_⟩
  rcases h.2.2 with h0 | ⟨g, c, cur, hv, hbase, hc, hrest⟩
  · exact Or.inl h0
  · refine Or.inr ⟨g, c, cur, hv, hbase, ?_, hrest⟩
    rw [hk g (by rw [hv]; rfl)]
    exact hc

theorem ebuf_grown {base n cp c : Nat} {p : Option Addr} {W V : World} {es : List T0.Ent} (h : V1.EBuf base W p n cp es) (hg : W.grownBy V (some c)) (hc : c < base) : V1.EBuf base V p n cp es := by
  refine ⟨h.1, h.2.1, ?_⟩
  rcases h.2.2 with h0 | ⟨g, cc, cur, hv, hbase, hcur, hrest⟩
  · exact Or.inl h0
  · refine Or.inr ⟨g, cc, cur, hv, hbase, ?_, hrest⟩
    rw [hg.block g (Array.getElem?_eq_some_iff.1 hcur).1 (fun e => by have := Option.some.inj e; omega)]
    exact hcur

theorem ebuf_lt {base n cp g : Nat} {W : World} {es : List T0.Ent} (h : V1.EBuf base W (some ⟨g, 0, none⟩) n cp es) : base ≤ g ∧ g < W.heap.size := by
  have := h.2.lt g rfl
  exact ⟨this.1, by
    rcases h.2.2 with ⟨h0, _⟩ | ⟨g', c, cur, hv, hbase, hc, hrest⟩
    · cases h0
    · cases hv
      exact (Array.getElem?_eq_some_iff.1 hc).1⟩

/-- The entries so far, the names, an entry in its cells. -/
structure Ld (w0 w : World) (c : Nat) (a : Option Addr) (len cap N g n cp : Nat) (es : List T0.Ent) (W : World) : Prop where
  st : St w0 W c a len cap
  gr : w.grownBy W (some c)
  buf : V1.EBuf w.heap.size W (some ⟨g, 0, none⟩) n cp es
  nm : Of W N 6 IsTxt
  ne : N ≠ c ∧ N ≠ g ∧ c < w.heap.size

section
variable {w0 w W W' : World} {c : Nat} {a : Option Addr} {len cap N g n cp : Nat} {es : List T0.Ent}
theorem Of.below {w W : World} {l n : Nat} {Q : Value → Prop} (h : Of w l n Q) (hb : Below w.heap.size w W) : Of W l n Q :=
  ⟨Nat.lt_of_lt_of_le h.lt hb.size, fun j hj => by
    obtain ⟨v, hv, hc⟩ := h.cell j hj
    exact ⟨v, hv, (hb.cell (p := ⟨l, j, none⟩) h.lt).trans hc⟩⟩
theorem Ld.below (h : Ld w0 w c a len cap N g n cp es W) (hb : Below W.heap.size W W') : Ld w0 w c a len cap N g n cp es W' :=
  ⟨h.st.below hb, grown_below h.gr hb, h.buf.below hb, h.nm.below hb, h.ne⟩
theorem Ld.grown (h : Ld w0 w c a len cap N g n cp es W) (s : St w0 W' c a len cap) (hg : W.grownBy W' (some c)) : Ld w0 w c a len cap N g n cp es W' := by
  have hl := ebuf_lt h.buf
  have := h.ne.2.2
  exact ⟨s, grown_trans h.gr hg, ebuf_block h.buf (fun g' e => by cases e; exact hg.block g hl.2 (fun e => by have := Option.some.inj e; omega)), h.nm.grown hg h.ne.1, h.ne⟩
theorem Ld.set (h : Ld w0 w c a len cap N g n cp es W) {E j : Nat} {v : Value} (h1 : E ≠ c) (h2 : E ≠ g) (h3 : E ≠ N) (h4 : w.heap.size ≤ E) (h5 : w0.heap.size ≤ E) : Ld w0 w c a len cap N g n cp es (W.setCell ⟨E, j, none⟩ v) := by
  refine ⟨st_other h.st h1 h5 _, grown_setNew h.gr h4, ebuf_block h.buf (fun g' e => by cases e; exact Below.heap_setCell _ _ _ _ (Ne.symm h2)), ⟨by simpa using h.nm.lt, fun i hi => ?_⟩, h.ne⟩
  obtain ⟨x, hx, hc⟩ := h.nm.cell i hi
  exact ⟨x, hx, (World.cell?_setCell_other _ _ _ _ (fun e => h3 (Addr.mk.inj e).1)).trans hc⟩
theorem Ld.step (h : Ld w0 w c a len cap N g n cp es W) {u : Int} {v : ByteArray} {g' cap' : Nat} {w' : World} (hb : V1.EBuf w.heap.size w' (some ⟨g', 0, none⟩) (n + 1) cap' (es ++ [(u, v)])) (hg : (W.alloc (.cells #[.int .i64 u, .string v] 33)).grownBy w' (Value.slice (some ⟨g, 0, none⟩) n cp).ownBlock)
    (hw : (Value.slice (some ⟨g, 0, none⟩) n cp).ownBlock = some g' ∨ g' = W.heap.size + 1) (hn0 : w0.heap.size ≤ c) : Ld w0 w c a len cap N g' (n + 1) cap' (es ++ [(u, v)]) w' := by
  have hl := ebuf_lt h.buf
  have h2 := h.below (K0.below_new W (.cells #[.int .i64 u, .string v] 33))
  have hnl := h.nm.lt
  have hg2 : (W.alloc (.cells #[.int .i64 u, .string v] 33)).grownBy w' (some g) := hg
  have hne := h.ne
  refine ⟨h2.st.grown (g := g) hg2 (by omega) (by omega), grown_new h2.gr hg2 hl.1, hb, h2.nm.grown hg2 h.ne.2.1, h.ne.1, ?_, h.ne.2.2⟩
  rcases hw with e | e
  · cases e
    exact h.ne.2.1
  · omega
end

theorem names6 : ∀ v ∈ (#[Value.string ⟨#[97]⟩, Value.string ⟨#[98]⟩, Value.string ⟨#[99]⟩, Value.string ⟨#[100, 100]⟩, Value.string ⟨#[101, 46, 120]⟩, Value.string ⟨#[102]⟩] : Array Value).toList, IsTxt v := all_short (by rfl)

/-- Names that are short. -/
def Short (es : List T0.Ent) : Prop := ∀ e ∈ es, e.2.size ≤ 100

theorem short_snoc {es : List T0.Ent} {i : Int} {n : ByteArray} (h : Short es) (hn : n.size ≤ 100) : Short (es ++ [(i, n)]) := fun e he => by
  rcases List.mem_append.1 he with h1 | h1
  · exact h e h1
  · simp at h1
    subst h1
    exact hn

variable {w0 w : World} {c : Nat} {a : Option Addr} {len cap : Nat}

set_option maxHeartbeats 4000000 in
theorem l03Dir (hcode : Given w0 a len) (h : St w0 w c a len cap) (hlen : len ≤ 1048576) :
    Calls Try.prog 80 #[.pointer (some ⟨c, 0, none⟩)] w fun e w' => ∃ (p : Option Addr) (cp : Nat) (es : List T0.Ent), es.length ≤ 13 ∧ e = .returned (.slice p es.length cp) ∧ V1.OwnE w.heap.size w' p es ∧ es.length ≤ cp ∧ Short es ∧ St w0 w' c a len cap ∧ w.grownBy w' (some c) := by
  have hcl := h.cur.lt
  have hn0 := h.new
  have b0 := V1.ebuf_made (base := w.heap.size) w (Nat.le_refl _)
  have s0 := h.below (K0.below_new w (.cells #[] 33))
  have g0 : w.grownBy (w.alloc (.cells #[] 33)) (some c) := grown_of_below (K0.below_new w _)
  go_enter Try.func80, Try.ntmps80
  go_upto_if 12 with (first
    | (go_at_call 72; refine (below_any hcode s0 hlen 4 (by omega) (by omega)).mono ?_; rintro e w1 ⟨⟨m, m0, m1, rfl⟩, s1, g1⟩; have b1 := ebuf_grown b0 g1 hcl; have gr1 := grown_trans g0 g1)
    | (go_at_call 109; refine (once_any hcode s1 hlen 20 (by omega) (by omega)).mono ?_; rintro e w2 ⟨⟨b2, rfl⟩, s2, g2⟩; have b3 := ebuf_grown b1 g2 hcl; have gr2 := grown_trans gr1 g2))
  go_cut [4] (fun v wx => ∃ m2 : Int, 0 ≤ m2 ∧ m2 ≤ 13 ∧ v = .int .i64 m2 ∧ wx = w2)
  case first =>
    go_wp2
    · go_meet
      exact ⟨13, by omega, by omega, rfl, rfl⟩
    · go_meet
      exact ⟨m, m0, by omega, rfl, rfl⟩
  case rest =>
    obtain ⟨m2, m20, m21, rfl, rfl⟩ := hcut
    have hlt2 : w.heap.size < wc.heap.size := Nat.lt_of_lt_of_le (by simp) (Nat.le_trans g1.size g2.size)
    have ld0 : Ld w0 w c a len cap wc.heap.size w.heap.size 0 0 [] (wc.alloc (.cells #[.string ⟨#[97]⟩, .string ⟨#[98]⟩, .string ⟨#[99]⟩, .string ⟨#[100, 100]⟩, .string ⟨#[101, 46, 120]⟩, .string ⟨#[102]⟩] 9)) := ⟨s2.below (K0.below_new _ _), grown_below gr2 (K0.below_new _ _), b3.alloc _, Of.new wc _ 9 IsTxt (of_all names6), by omega, by omega, hcl⟩
    clear b0 s0 g0 s1 g1 b1 gr1 s2 g2 b3 gr2
    obtain ⟨N, hN⟩ : ∃ N, wc.heap.size = N := ⟨_, rfl⟩
    rw [hN] at ld0
    go_wp2
    try simp only [hN]
    clear hN hlt2
    go_loopw [3, 6] (fun v i W => ∃ (k g cp : Nat) (es : List T0.Ent), (k : Int) ≤ m2 ∧ es.length = k ∧ i = .int .i64 k ∧ v = .slice (some ⟨g, 0, none⟩) k cp ∧ Short es ∧ Ld w0 w c a len cap N g k cp es W) (fun _ i _ => m2.toNat - (intOf i).toNat)
    case atStart => exact ⟨0, w.heap.size, 0, [], m20, rfl, rfl, rfl, (fun e he => by cases he), ld0⟩
    case round =>
      obtain ⟨k, g, cp, es, hk, hel, rfl, rfl, hsh, hld⟩ := hrel
      clear ld0
      have hgl := ebuf_lt hld.buf
      have hNl := hld.nm.lt
      have hws := hld.gr.size
      by_cases hlt : (k : Int) < m2
      · obtain ⟨v, ⟨nm, hnm, rfl⟩, hcell⟩ := hld.nm.cell (k % 6) (by omega)
        obtain ⟨j, hj⟩ : ∃ j, k % 6 = j := ⟨_, rfl⟩
        obtain ⟨r, hr⟩ : ∃ r, k % 7 = r := ⟨_, rfl⟩
        rw [hj] at hcell
        have mA : Int.tmod (k : Int) 6 = (j : Int) := by rw [Int.tmod_eq_emod_of_nonneg (by omega)]; omega
        have mB : (k : Int) % 6 = (j : Int) := by omega
        have mC : Int.tmod (k : Int) 7 = (r : Int) := by rw [Int.tmod_eq_emod_of_nonneg (by omega)]; omega
        have mD : (k : Int) % 7 = (r : Int) := by omega
        have j0 : (0 : Int) ≤ (j : Int) := by omega
        have j6 : (j : Int) < 6 := by omega
        have r7 : (r : Int) < 7 := by omega
        have hwr : IntKind.i64.wrap (1 + (r : Int)) = 1 + (r : Int) := wrap_of _ (by omega) (by omega)
        have ld1 := hld.below (K0.below_new wr (.cells #[.int .i64 (1 + (r : Int)), .string nm] 33))
        have ke := K0.blk_new [.int .i64 (1 + (r : Int)), .string nm] wr 33
        clear hj hr
        go_wp2_with (first
          | (go_at_call 109; refine (once_any hcode ld1.st hlen 8 (by omega) (by omega)).mono ?_; rintro e w3 ⟨⟨b3, rfl⟩, s3, g3⟩; have ld3 := ld1.grown s3 g3; have ke3 := blk_grown ke g3 (by omega); have c0 := ke3.c0; have c1 := ke3.c1; have f0 := ke3.f0; have f1 := ke3.f1; have l3 := ld3.gr.size)
          | (go_at_call 66; refine (l03Entry hcode ld3.st hlen).mono ?_; rintro e w4 ⟨⟨i4, n4, wi4, hn4, rfl⟩, s4, g4⟩; have ld4 := ld3.grown s4 g4; have ke4 := blk_grown ke3 g4 (by omega); have d0 := ke4.c0; have d1 := ke4.c1; have d2 := ke4.f0; have d3 := ke4.f1; have ke5 := ke4.put2 (.int .i64 i4) (.string n4); have d4 := ke5.c0; have d5 := ke5.c1; have ld5 := (ld4.set (E := wr.heap.size) (j := 0) (v := .int .i64 i4) (by omega) (by omega) (by omega) (by omega) (by omega)).set (E := wr.heap.size) (j := 1) (v := .string n4) (by omega) (by omega) (by omega) (by omega) (by omega))
          | (at_builtin; have ld5' := ld5; refine append_ent2 rfl (.tmp 32) (.tmp 34) rfl ld5.buf i4 n4 rfl (H := w4.heap.size) (by simp) (by rfl) (by omega) ld5.gr.size ?_; intro g6 cap6 w6 b6 hg6 hw6; have ld6 := ld5.step b6 hg6 hw6 hn0)
          | (at_builtin; refine append_ent2 rfl (.tmp 32) (.tmp 34) rfl ld3.buf (1 + (r : Int)) nm rfl (H := w3.heap.size) rfl (by rfl) (by omega) ld3.gr.size ?_; intro g6 cap6 w6 b6 hg6 hw6; have ld6 := ld3.step b6 hg6 hw6 hn0))
        · go_roundw
          case rel => exact ⟨k + 1, g6, cap6, es ++ [(i4, n4)], by omega, by simp [hel], by go_num, rfl, short_snoc hsh hn4, ld6⟩
          case measure => simp [intOf]; omega
        · go_roundw
          case rel => exact ⟨k + 1, g6, cap6, es ++ [(1 + (r : Int), nm)], by omega, by simp [hel], by go_num, rfl, short_snoc hsh hnm, ld6⟩
          case measure => simp [intOf]; omega
      · go_wp2
        go_ret
        have hfit := hld.buf.fits
        exact ⟨some ⟨g, 0, none⟩, cp, es, by omega, by rw [hel]; rfl, hld.buf.own, by omega, hsh, hld.st, hld.gr⟩
end Go.Proofs.Ytifddipnboifnaa.C1
