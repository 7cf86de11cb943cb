/- Joined texts: plain facts and contracts, as each part says. -/
import Derived.Test.YtkdjcbmmbjongaaGreatJnG
import Derived.Test.YtkdjcbmmbjongaaGreatJnC
import Derived.Test.YtkdjcbmmbjongaaGreatJnA
import Derived.Deep.RegionHeld3
import Derived.Test.YtkdjcbmmbjongaaGreatJnD

/- A list of puts that grows behind a pointer; the contracts of impl.pageText and impl.putData. -/
namespace Go.Proofs.YtkdjcbmmbjongaaGreat.SP
open Go.ChangeShapes Go.WideShapes Go.ChangeAt Go.RowKit
set_option linter.unusedVariables false
set_option linter.unusedSimpArgs false
set_option maxRecDepth 10000

open PQ (PBuf)
open V1 (flat flat_length OwnE)

theorem flat_app : ∀ (es xs : List T0.Ent), flat (es ++ xs) = flat es ++ flat xs
  | [], xs => rfl
  | e :: r, xs => by simp [flat, flat_app r xs]
theorem flat_one : ∀ (es : List T0.Ent), ∀ u ∈ flat es, u.oneCell' = true
  | [], u, h => by simp [flat] at h
  | e :: r, u, h => by
    simp [flat] at h
    rcases h with rfl | rfl | h
    · rfl
    · rfl
    · exact flat_one r u h

theorem row_flat {w : World} {b off : Nat} {es : List T0.Ent} (hc : ∀ j, j < es.length → w.cell? ⟨b, off + j * 2, none⟩ = some (.int .i64 (T0.ent es j).1) ∧ w.cell? ⟨b, off + j * 2 + 1, none⟩ = some (.string (T0.ent es j).2)) (i : Nat) (u : Value) (h : (flat es)[i]? = some u) : w.cell? ⟨b, off + i, none⟩ = some u := by
  have hi : i < es.length * 2 := by
    have := (List.getElem?_eq_some_iff.1 h).1
    rwa [flat_length] at this
  have hj : i / 2 < es.length := by omega
  have hf := V1.flat_get es (i / 2) hj
  have hcj := hc (i / 2) hj
  rcases (show i = i / 2 * 2 ∨ i = i / 2 * 2 + 1 from by omega) with e | e
  · rw [e] at h
    rw [hf.1] at h
    rw [e, hcj.1]
    exact h
  · rw [e] at h
    rw [hf.2] at h
    rw [e, show off + (i / 2 * 2 + 1) = off + i / 2 * 2 + 1 by omega, hcj.2]
    exact h

variable {base n cap : Nat} {a : Option Addr} {w W W' : World} {es : List T0.Ent}

/-- 'list = append(list, others...)'. -/
theorem append_prow {ops : Array Oper} {rest : List Oper} {o : Oper} {A : Act} {Q : Exit → Act → World → Prop} (hgd : o.guard = none) (sl x : Operand)
    (ho : o.op = .call { callee := .builtin .append, args := #[sl, x], argTypes := #[28, 28] })
    (hbuf : PBuf base w a n cap es) (ax : Option Addr) (cx : Nat) (xs : List T0.Ent) (hs : A.eval sl = .slice a n cap) (hx : A.eval x = .slice ax xs.length cx) (hR : T0.Row w ax xs) (hlen : n + xs.length ≤ 1048576) (hb : base ≤ w.heap.size)
    (h : ∀ a' cap' w', PBuf base w' a' (n + xs.length) cap' (es ++ xs) → Below base w w' → wpList Tryz.prog ops Q rest (A.put o.dst (.slice a' (n + xs.length) cap')) w') : wpList Tryz.prog ops Q (o :: rest) A w := by
  obtain ⟨i0, hi, hz0, hz1, hz2⟩ := info_parts PP.info33
  by_cases h0 : xs = []
  · subst h0
    refine Lib.wpList_append_run _ hgd sl x 28 28 ho _ _ hs hx _ _ (Q1.run_append_none w 28 _ 65 i0 Tryz.underlying28 hi a n cap hbuf.fits ax cx) ?_
    exact h a cap w (by rw [List.append_nil]; exact hbuf) (Below.refl _ _)
  · rcases hR with hR | ⟨b, off, rfl, hb2, hc⟩
    · exact absurd hR h0
    · have hm : 0 < xs.length := List.length_pos_iff.2 h0
      refine wpList_append_lies _ hgd sl x 28 ho base 65 i0 (.agg #[.int .i64 0, .string ⟨#[]⟩]) 2 24 Tryz.underlying28 hi hz0 hz1 hz2 rfl (by omega) _ n _ hs hbuf.2 ⟨b, off, none⟩ xs.length cx (flat xs) hx (flat_length xs) ?_ (flat_one xs) hm (by unfold maxLen; omega) (by omega) hb _ rfl ?_
      · intro j u hj
        rw [B0.add_off]
        exact row_flat hc j u hj
      · intro g' cap' w' ho' hg' _ _
        refine h (some ⟨g', 0, none⟩) cap' w' ⟨by rw [hbuf.1]; simp, ?_⟩ ?_
        · rw [flat_app]
          exact ho'
        · exact F0.below_grown (Below.refl _ _) hg' (fun g hg => (hbuf.2.lt g hg).1) hb

/-- A series of puts in its block; its row lies behind it. -/
structure SI (B : Nat) (a : Option Addr) (n cap : Nat) (es : List T0.Ent) (W : World) : Prop where
  blk : K0.Blk B [.slice a n cap] W
  buf : PBuf (B + 1) W a n cap es

variable {B : Nat}
theorem SI.below (h : SI B a n cap es W) (hb : Below W.heap.size W W') : SI B a n cap es W' := ⟨h.blk.below hb, h.buf.below hb⟩
theorem SI.lt (h : SI B a n cap es W) : B + 1 ≤ W.heap.size := h.blk.lt
theorem SI.len (h : SI B a n cap es W) : n = es.length := h.buf.1
theorem SI.drew (h : SI B a n cap es W) : SI B a n cap es W.drew := ⟨h.blk.drew, h.buf.1, h.buf.2⟩
theorem SI.setLow (h : SI B a n cap es W) {B' : Nat} (hB : B' < B) (j : Nat) (v : Value) : SI B a n cap es (W.setCell ⟨B', j, none⟩ v) :=
  ⟨h.blk.setOther (by omega) j v, h.buf.1, ownsRow_setCell_other h.buf.2 (a := ⟨B', j, none⟩) (fun e => by have := (h.buf.2.lt _ e).1; simp only at this; omega) _⟩
theorem pbuf_nil (w : World) : PBuf base w none 0 0 [] := ⟨rfl, rfl, Or.inl ⟨rfl, rfl⟩⟩
theorem si_new (w : World) : SI w.heap.size none 0 0 [] (w.alloc (.cells #[.slice none 0 0] 88)) := ⟨K0.blk_new [.slice none 0 0] w 88, pbuf_nil _⟩
theorem SI.store {a' : Option Addr} {n' cap' : Nat} {es' : List T0.Ent} (h : SI B a n cap es w) (hbuf : PBuf (B + 1) W a' n' cap' es') (hb : Below (B + 1) w W) : SI B a' n' cap' es' (W.setCell ⟨B, 0, none⟩ (.slice a' n' cap')) := by
  have h1 := J0.blk_keep h.blk hb (Nat.lt_succ_self B)
  refine ⟨h1.set 0 (.slice a' n' cap'), hbuf.1, ?_⟩
  exact ownsRow_setCell_other hbuf.2 (a := ⟨B, 0, none⟩) (fun e => Nat.not_succ_le_self _ (hbuf.2.lt _ e).1) _

set_option maxHeartbeats 1000000 in
theorem add (ax : Option Addr) (cx : Nat) (xs : List T0.Ent) (w : World) (h : SI B a n cap es w) (hR : T0.Row w ax xs) (hlen : n + xs.length ≤ 1048576) :
    Calls Tryz.prog 60 #[.pointer (some ⟨B, 0, none⟩), .slice ax xs.length cx] w fun e w' => e = .returned (.tuple #[]) ∧ ∃ a' cap', SI B a' (n + xs.length) cap' (es ++ xs) w' ∧ Below B w w' := by
  have c0 := h.blk.c0
  have hlt := h.lt
  have hbf := h.buf
  have HH : Hid (SI B a n cap es w) := h
  clear h
  go_enter Tryz.func60, Tryz.ntmps60
  go_wp2_with (at_builtin; refine append_prow rfl (.tmp 8) (.tmp 9) rfl hbf ax cx xs (by rfl) (by rfl) hR (by omega) hlt ?_; intro a1 cap1 w1 b1 l1; have k1 := J0.blk_keep HH.out.blk l1 (Nat.lt_succ_self B); have c1 := k1.c0; have f1 := k1.f0)
  refine bodyPost_end (v := .tuple #[]) (by simp [results, Tryz.results60, go_sem]) rfl ?_
  exact ⟨rfl, a1, cap1, HH.out.store b1 l1, SR.store_below l1 _⟩

theorem row_put (w : World) (u : Int) (v : ByteArray) (T : TypeId) : T0.Row (w.alloc (.cells #[.int .i64 u, .string v] T)) (some ⟨w.heap.size, 0, none⟩) [(u, v)] := by
  have k := K0.blk_new [.int .i64 u, .string v] w T
  refine Or.inr ⟨w.heap.size, 0, rfl, k.lt, fun j hj => ?_⟩
  obtain rfl : j = 0 := by simp at hj; omega
  exact ⟨k.c0, k.c1⟩

/-- The closure that gathers what is to be written. -/
theorem write (u : Int) (v : ByteArray) (w : World) (h : SI B a n cap es w) (hlen : n + 1 ≤ 1048576) :
    Calls Tryz.prog 59 #[.int .i64 u, .string v, .pointer (some ⟨B, 0, none⟩)] w fun e w' => e = .returned (.tuple #[]) ∧ ∃ a' cap', SI B a' (n + 1) cap' (es ++ [(u, v)]) w' ∧ Below B w w' := by
  have h1 := h.below (K0.below_new w (.cells #[.int .i64 u, .string v] 65))
  have hl := h.lt
  have l1 : Below B w (w.alloc (.cells #[.int .i64 u, .string v] 65)) := (K0.below_new w _).mono (by omega)
  have r1 := row_put w u v 65
  clear h
  go_enter Tryz.func59, Tryz.ntmps59
  go_wp2_with (go_at_call 60; refine (add (some ⟨w.heap.size, 0, none⟩) 1 [(u, v)] _ h1 r1 (by simp only [List.length_cons, List.length_nil]; omega)).mono ?_; rintro e w2 ⟨rfl, a2, c2, s2, b2⟩)
  refine bodyPost_end (v := .tuple #[]) (by simp [results, Tryz.results59, go_sem]) rfl ?_
  exact ⟨rfl, a2, c2, s2, l1.trans b2⟩

theorem pageText (data : ByteArray) (i : Nat) (w : World) (hs : data.size ≤ 281474976710656) (hi : i ≤ 1000) :
    Calls Tryz.prog 61 #[.string data, .int .i64 (i : Int)] w fun e w' => e = .returned (.string (PF.pageText data i)) ∧ Below w.heap.size w w' := by
  have hpz : (B2.part data ((i : Int) * 32) (min 32 ((data.size : Int) - (i : Int) * 32))).size ≤ 281474976710656 := Nat.le_trans (B2.part_size _ _ _) hs
  have hz : B4.zeros 32 = B4.nulls 32 := rfl
  have hzz : (B4.nulls 32).size ≤ 281474976710656 := by rw [B4.nulls_size]; omega
  go_enter Tryz.func61, Tryz.ntmps61
  go_wp2_with (first
    | (go_at_call 85; refine (B4.impl_Zeros 32 _).mono ?_; rintro e w1 ⟨rfl, b1⟩; rw [hz])
    | (go_at_call 81; refine (B2.impl_Part _ _ _ _ hs).mono ?_; rintro e w2 ⟨rfl, b2⟩)
    | (go_at_call 84; refine (B5.impl_With _ _ _ _ hzz hpz).mono ?_; rintro e w3 ⟨rfl, b3⟩))
  go_ret
  exact ⟨rfl, (b1.trans (b2.mono b1.size)).trans (b3.mono (Nat.le_trans b1.size b2.size))⟩
end Go.Proofs.YtkdjcbmmbjongaaGreat.SP

/- The contract of impl.putData, as the given laws call it. -/
namespace Go.Proofs.YtkdjcbmmbjongaaGreat.SQ
open Go.ChangeShapes Go.WideShapes Go.ChangeAt Go.RowKit
set_option linter.unusedVariables false
set_option linter.unusedSimpArgs false
set_option maxRecDepth 10000

open V1 (OwnE)
open SP (SI)

/-- What is answered: puts, and whether they are any. -/
def Ans (Z : List T0.Ent) (ok : Bool) (w : World) (e : Ending) (w' : World) : Prop :=
  ∃ a c, e = .returned (.tuple #[.slice a Z.length c, .bool ok]) ∧ OwnE w.heap.size w' a Z ∧ Z.length ≤ c ∧ Below w.heap.size w w'

theorem ans_no {w w' : World} {a : Option Addr} {c : Nat} (hb : Below w.heap.size w w') : Ans [] false w (.returned (.tuple #[.slice a 0 c, .bool false])) w' := ⟨a, c, rfl, Or.inl rfl, Nat.zero_le _, hb⟩

theorem pagesFor (s : Int) (w : World) (h0 : 0 ≤ s) (h1 : s ≤ 281474976710656) :
    Calls Tryz.prog 58 #[.int .i64 s] w fun e w' => e = .returned (.int .i64 (P0.need s)) ∧ w' = w := by
  have e : P0.need s = (s + 32 - 1) / 32 := by unfold P0.need; omega
  rw [e]
  go_enter Tryz.func58, Tryz.ntmps58
  go_wp2
  go_ret
  exact ⟨rfl, rfl⟩

theorem hmf : ∀ (fn : Fn) (first cap : Array Value) (w : World), (Instr.makeFunc fn first cap).run Tryz.prog w = .ok (.func fn first cap) w := fun _ _ _ _ => rfl

theorem row_take {w : World} {a : Option Addr} {zs : List Int} (h : P0.Row w a zs) (q : Nat) (hq : q ≤ zs.length) : P0.Row w a (zs.take q) := by
  by_cases h0 : zs.take q = []
  · exact Or.inl h0
  · rcases h with rfl | ⟨b, off, rfl, hb, hc⟩
    · simp at h0
    · refine Or.inr ⟨b, off, rfl, hb, fun j hj => ?_⟩
      have hj' : j < q := by simp at hj; omega
      have e : (zs.take q).getD j 0 = zs.getD j 0 := by simp [List.getD, hj']
      rw [e]
      exact hc j (by omega)

set_option maxHeartbeats 4000000 in
theorem putData (ino k o s : Int) (an ap : Option Addr) (m cn cp : Nat) (pages : List Int) (data : ByteArray) (w : World) (hd : data.size ≤ 281474976710656) (hpl : pages.length ≤ 1000) (hcp : pages.length ≤ cp) (hpg : ∀ z ∈ pages, 5 ≤ z ∧ z ≤ 23) (hR : P0.Row w ap pages) :
    Calls Tryz.prog 32 #[.int .i64 ino, I0.val k o s an m cn, .slice ap pages.length cp, .string data] w (Ans (PF.puts ino k o pages data) (PF.fitsIn pages data) w) := by
  have hpf : Hid (∀ W, Calls Tryz.prog 58 #[.int .i64 (data.size : Int)] W fun e w' => e = .returned (.int .i64 (P0.need data.size)) ∧ w' = W) := fun W => pagesFor _ W (by omega) (by omega)
  obtain ⟨q, hq⟩ : ∃ q : Nat, P0.need data.size = (q : Int) := ⟨(P0.need data.size).toNat, by unfold P0.need; omega⟩
  have hqt : (P0.need data.size).toNat = q := by omega
  have hq192 : data.size ≤ 192 → q ≤ 6 := by unfold P0.need at hq; omega
  have l0 := K0.below_new w (.cells #[.int .i64 k, .int .i64 o, .int .i64 s, .slice an m cn] 49)
  have k0 := K0.blk_new [.int .i64 k, .int .i64 o, .int .i64 s, .slice an m cn] w 49
  rw [hq] at hpf
  by_cases h1 : data.size ≤ 192
  · have h1' : ¬ (192 : Int) < (data.size : Int) := by omega
    by_cases h2 : q ≤ pages.length
    · have hf := PF.fits_yes (pages := pages) h1 (by omega)
      have d1 : decide ((192 : Int) < (data.size : Int)) = false := by simp; omega
      have d2 : decide (pages.length < q) = false := by simp; omega
      have d3 : decide ((pages.length : Int) < (q : Int)) = false := by simp; omega
      have h2a : (q : Int) ≤ (cp : Int) := by omega
      have h2b : (0 : Int) ≤ (q : Int) := by omega
      have hq6 := hq192 h1
      rw [PF.puts_yes hf, hf]
      clear hq192
      have hu : Hid (∀ j, PF.pagePuts pages data (j + 1) = PF.pagePuts pages data j ++ [(pages.getD j 0 * 32, PF.pageText data j)]) := fun j => PF.pagePuts_succ pages data j
      have HZ : Hid (PF.allPuts ino k o pages data = PF.pagePuts pages data q ++ [(L1.recAt ino, R0.putI k o data.size (pages.take q))]) := by
        show PF.allPuts ino k o pages data = _
        rw [PF.allPuts, hqt]
      have hL0 : Hid (∀ j, (PF.pagePuts pages data j).length = j) := fun j => PF.pagePuts_length pages data j
      have s1 := SP.si_new (w.alloc (.cells #[.int .i64 k, .int .i64 o, .int .i64 s, .slice an m cn] 49))
      have l1 := K0.below_new (w.alloc (.cells #[.int .i64 k, .int .i64 o, .int .i64 s, .slice an m cn] 49)) (.cells #[.slice none 0 0] 88)
      have e0 : (w.alloc (.cells #[.int .i64 k, .int .i64 o, .int .i64 s, .slice an m cn] 49)).heap.size = w.heap.size + 1 := by simp
      have k1 := k0.below l1
      rw [e0] at s1 l1
      have M1 := l0.trans (l1.mono (Nat.le_succ _))
      have HR : Hid (∀ W, Below w.heap.size w W → P0.Row W ap pages) := fun W hW => hR.below hW
      have hm0 := hmf
      clear hq hqt hf h1 h1' e0 l1 l0 k0 hR
      go_enter Tryz.func32, Tryz.ntmps32
      go_wp2_with (go_at_call 58; refine (hpf.out _).mono ?_; rintro e w2 ⟨rfl, hw2⟩; subst w2)
      go_loopw [34] (fun i w' => ∃ (j : Nat) (a' : Option Addr) (cap' : Nat), j ≤ q ∧ i = .int .i64 j ∧ SI (w.heap.size + 1) a' j cap' (PF.pagePuts pages data j) w' ∧ K0.Blk w.heap.size [.int .i64 k, .int .i64 o, .int .i64 s, .slice an m cn] w' ∧ Below w.heap.size w w') (fun i _ => q - (intOf i).toNat)
      case atStart => exact ⟨0, none, 0, Nat.zero_le _, rfl, s1, k1, M1⟩
      case round =>
        obtain ⟨j, a1, cap1, hj, rfl, hs, hk, hbel⟩ := hrel
        clear s1 k1 M1
        by_cases hlt : j < q
        · obtain ⟨b, off, rfl, hlt0, hc⟩ := (HR.out _ hbel).get (k := j) (by omega)
          have y1 := hc j (by omega)
          have hz := hpg (pages.getD j 0) (N0.getD_mem (by omega))
          have HU := hu.out j
          obtain ⟨z, ez⟩ : ∃ z, pages.getD j 0 = z := ⟨_, rfl⟩
          rw [ez] at y1 hz HU
          have HU' : Hid (PF.pagePuts pages data (j + 1) = PF.pagePuts pages data j ++ [(z * 32, PF.pageText data j)]) := HU
          have hpt : Hid (∀ W, Calls Tryz.prog 61 #[.string data, .int .i64 (j : Int)] W fun e w' => e = .returned (.string (PF.pageText data j)) ∧ Below W.heap.size W w') := fun W => SP.pageText data j W hd (by omega)
          have hwr : Hid (∀ W, SI (w.heap.size + 1) a1 j cap1 (PF.pagePuts pages data j) W → Calls Tryz.prog 59 #[.int .i64 (z * 32), .string (PF.pageText data j), .pointer (some ⟨w.heap.size + 1, 0, none⟩)] W fun e w' => e = .returned (.tuple #[]) ∧ ∃ a' cap', SI (w.heap.size + 1) a' (j + 1) cap' (PF.pagePuts pages data j ++ [(z * 32, PF.pageText data j)]) w' ∧ Below (w.heap.size + 1) W w') := fun W hW => SP.write (z * 32) (PF.pageText data j) W hW (by omega)
          have e1 : (0 : Int) ≤ (j : Int) := by omega
          have e2 : (j : Int) < (q : Int) := by omega
          have hB := hbel.size
          clear ez hc hpg HU hu HZ HR hL0 hpf
          go_wp2_with (first
            | (go_at_call 61; refine (hpt.out _).mono ?_; rintro e w2 ⟨rfl, b2⟩; have s2 := hs.below b2; have k2 := hk.below b2; have M2 := hbel.trans (b2.mono hB))
            | (go_at_call 59; refine (hwr.out _ s2).mono ?_; rintro e w3 ⟨rfl, a3, c3, s3, b3⟩; have k3 := J0.blk_keep k2 b3 (Nat.lt_succ_self _); have M3 := M2.trans (b3.mono (Nat.le_succ _))))
          go_roundw
          case rel => exact ⟨j + 1, a3, c3, by omega, by go_num, by rw [HU'.out]; exact s3, k3, M3⟩
          case measure => simp [intOf]; omega
        · obtain rfl : j = q := by omega
          have hx := row_take (HR.out _ hbel) j h2
          have htl : (pages.take j).length = j := by simp; omega
          have hri : Hid (∀ W, P0.Row W ap (pages.take j) → Calls Tryz.prog 63 #[I0.val k o data.size ap j cp] W fun e w' => e = .returned (.string (R0.putI k o data.size (pages.take j))) ∧ Below W.heap.size W w') := fun W hW => by
            have := R1.impl_PutInode k o data.size ap cp (pages.take j) W (by omega) (by omega) hW
            rwa [htl] at this
          have HA : Hid (∀ a c w', SI (w.heap.size + 1) a (j + 1) c (PF.pagePuts pages data j ++ [(L1.recAt ino, R0.putI k o data.size (pages.take j))]) w' → Below w.heap.size w w' → Ans (PF.allPuts ino k o pages data) true w (.returned (.tuple #[.slice a (j + 1) c, .bool true])) w') := fun a c w' h hb => by
            have hl := h.len
            rw [HZ.out]
            refine ⟨a, c, by rw [← hl], h.buf.own.mono (by omega), by rw [← hl]; exact h.buf.fits, hb⟩
          have hc2 := hk.c2
          have hf2 := hk.f2
          have hc3 := hk.c3
          have hf3 := hk.f3
          have s5 := (hs.setLow (Nat.lt_succ_self w.heap.size) 2 (.int .i64 (data.size : Int))).setLow (Nat.lt_succ_self w.heap.size) 3 (.slice ap j cp)
          have k5 := (hk.set 2 (.int .i64 (data.size : Int))).set 3 (.slice ap j cp)
          have M5 := (hbel.setCell (p := ⟨w.heap.size, 2, none⟩) (Nat.le_refl _) (.int .i64 (data.size : Int))).setCell (p := ⟨w.heap.size, 3, none⟩) (Nat.le_refl _) (.slice ap j cp)
          simp only [List.set_cons_zero, List.set_cons_succ] at k5
          have HR' : Hid (∀ W, Below w.heap.size w W → P0.Row W ap (pages.take j)) := fun W hW => row_take (HR.out _ hW) j h2
          clear hu hpf HR hk hs hbel hx
          go_wp2
          go_region
          clear hc2 hf2 hc3 hf3
          obtain ⟨w5, hw5⟩ : ∃ w5, (wr.setCell ⟨w.heap.size, 2, none⟩ (.int .i64 (data.size : Int))).setCell ⟨w.heap.size, 3, none⟩ (.slice ap j cp) = w5 := ⟨_, rfl⟩
          rw [hw5] at s5 k5 M5 ⊢
          clear hw5
          have hlt5 : w.heap.size < w5.heap.size := k5.lt
          have hwr : Hid (∀ W, SI (w.heap.size + 1) a1 j cap1 (PF.pagePuts pages data j) W → Calls Tryz.prog 59 #[.int .i64 (L1.recAt ino), .string (R0.putI k o data.size (pages.take j)), .pointer (some ⟨w.heap.size + 1, 0, none⟩)] W fun e w' => e = .returned (.tuple #[]) ∧ ∃ a' cap', SI (w.heap.size + 1) a' (j + 1) cap' (PF.pagePuts pages data j ++ [(L1.recAt ino, R0.putI k o data.size (pages.take j))]) w' ∧ Below (w.heap.size + 1) W w') := fun W hW => SP.write _ _ W hW (by omega)
          have hS0 : w5.drew.drew.cell? ⟨w.heap.size, 0, none⟩ = some (.int .i64 k) ∧ w5.drew.drew.cell? ⟨w.heap.size, 1, none⟩ = some (.int .i64 o) ∧ w5.drew.drew.cell? ⟨w.heap.size, 2, none⟩ = some (.int .i64 (data.size : Int)) ∧ w5.drew.drew.cell? ⟨w.heap.size, 3, none⟩ = some (.slice ap j cp) := ⟨k5.c0, k5.c1, k5.c2, k5.c3⟩
          go_wp2
          go_region_held3 (fun W => W.cell? ⟨w.heap.size, 0, none⟩ = some (.int .i64 k) ∧ W.cell? ⟨w.heap.size, 1, none⟩ = some (.int .i64 o) ∧ W.cell? ⟨w.heap.size, 2, none⟩ = some (.int .i64 (data.size : Int)) ∧ W.cell? ⟨w.heap.size, 3, none⟩ = some (.slice ap j cp)) (assumption) ((first
            | (go_at_call 62; refine (L1.impl_RecAt ino _).mono ?_; rintro e w6 ⟨rfl, hw6⟩; subst w6)
            | (go_at_call 63; refine (hri.out _ (HR'.out _ M5.drew.drew)).mono ?_; rintro e w7 ⟨rfl, b7⟩; have s7 := s5.drew.drew.below b7; have k7 := k5.drew.drew.below b7; have M7 := M5.drew.drew.trans (b7.mono (Nat.le_of_lt hlt5)); have hS7 : w7.cell? ⟨w.heap.size, 0, none⟩ = some (.int .i64 k) ∧ w7.cell? ⟨w.heap.size, 1, none⟩ = some (.int .i64 o) ∧ w7.cell? ⟨w.heap.size, 2, none⟩ = some (.int .i64 (data.size : Int)) ∧ w7.cell? ⟨w.heap.size, 3, none⟩ = some (.slice ap j cp) := ⟨k7.c0, k7.c1, k7.c2, k7.c3⟩)
            | (go_at_call 59; refine (hwr.out _ s7).mono ?_; rintro e w8 ⟨rfl, a8, c8, s8, b8⟩; have k8 := J0.blk_keep k7 b8 (Nat.lt_succ_self _); have M8 := M7.trans (b8.mono (Nat.le_succ _)); have z8 := s8.blk.c0; have hS8 : w8.cell? ⟨w.heap.size, 0, none⟩ = some (.int .i64 k) ∧ w8.cell? ⟨w.heap.size, 1, none⟩ = some (.int .i64 o) ∧ w8.cell? ⟨w.heap.size, 2, none⟩ = some (.int .i64 (data.size : Int)) ∧ w8.cell? ⟨w.heap.size, 3, none⟩ = some (.slice ap j cp) := ⟨k8.c0, k8.c1, k8.c2, k8.c3⟩)))
          all_goals
            go_wp2
            go_ret2
            exact HA.out _ _ _ s8 M8
    · have hf := PF.fits_no2 (data := data) (pages := pages) (by omega)
      have h2' : (pages.length : Int) < (q : Int) := by omega
      have l1 := l0.alloc l0.size (.cells #[] 65)
      rw [PF.puts_no hf, hf]
      clear hq hqt hq192 hR
      go_enter Tryz.func32, Tryz.ntmps32
      go_wp2_with (go_at_call 58; refine (hpf.out _).mono ?_; rintro e w2 ⟨rfl, hw2⟩; subst w2)
      go_ret2
      exact ans_no l1
  · have h1' : (192 : Int) < (data.size : Int) := by omega
    have hf := PF.fits_no1 (pages := pages) h1
    have l1 := l0.alloc l0.size (.cells #[] 65)
    rw [PF.puts_no hf, hf]
    clear hq hqt hq192 hR
    go_enter Tryz.func32, Tryz.ntmps32
    go_wp2_with (go_at_call 58; refine (hpf.out _).mono ?_; rintro e w2 ⟨rfl, hw2⟩; subst w2)
    go_ret2
    exact ans_no l1
end Go.Proofs.YtkdjcbmmbjongaaGreat.SQ

/- Contracts of impl.readPages, impl.readRecord, impl.isFree, impl.inodeOf and impl.GetInode, as the given laws call them. -/
namespace Go.Proofs.YtkdjcbmmbjongaaGreat.G1
open Go.ChangeShapes Go.WideShapes Go.ChangeAt Go.RowKit
set_option linter.unusedVariables false
set_option linter.unusedSimpArgs false
set_option maxRecDepth 10000

open I0 (val vals)

set_option maxHeartbeats 1000000 in
theorem readPages (s : ByteArray) (w : World) (h16 : s.size = 16) :
    Calls Tryz.prog 108 #[.string s, .int .i64 (P0.need (B6.pairAt s 2))] w fun e w' => ∃ a c, e = .returned (.slice a (G0.pgs s (G0.cnt s)).length c) ∧ J0.IBuf w.heap.size w' a (G0.pgs s (G0.cnt s)).length c (G0.pgs s (G0.cnt s)) ∧ Below w.heap.size w w' := by
  rw [G0.pgs_length]
  have hm : s.size ≤ maxLen := by unfold maxLen; omega
  have hz : (s.size : Int) = 16 := by omega
  have b0 := J0.ibuf_made w (Nat.le_refl _)
  have l0 := K0.below_new w (.cells #[] 3)
  have hcl := G0.cnt_le s
  have hct := G0.cnt_lt s
  obtain ⟨N, hN⟩ : ∃ N, P0.need (B6.pairAt s 2) = N := ⟨_, rfl⟩
  rw [hN] at hct ⊢
  obtain ⟨C, hC⟩ : ∃ C, G0.cnt s = C := ⟨_, rfl⟩
  rw [hC] at hct hcl ⊢
  clear hN hC
  go_enter Tryz.func108, Tryz.ntmps108
  go_wp2
  go_loopw [5, 6] (fun v i w' => ∃ (k c : Nat) (a : Option Addr), k ≤ C ∧ i = .int .i64 (4 + (k : Int)) ∧ v = .slice a k c ∧ J0.IBuf w.heap.size w' a k c (G0.pgs s k) ∧ Below w.heap.size w w') (fun _ i _ => 16 - (intOf i).toNat)
  case atStart => exact ⟨0, 0, _, Nat.zero_le _, rfl, rfl, b0, l0⟩
  case round =>
    obtain ⟨k, c, a, hk, rfl, rfl, hbuf, hbel⟩ := hrel
    clear b0 l0
    by_cases hlt : k < C
    · obtain ⟨h1, h2⟩ := (hct k).1 hlt
      have e1 : 4 + (k : Int) < 16 := by omega
      have HS : Hid (G0.pgs s k ++ [B1.byteAt s (4 + (k : Int))] = G0.pgs s (k + 1)) := G0.pgs_succ s k
      go_wp2_with (first
        | (go_at_call 107; refine (B1.impl_ByteAt _ _ _ hm).mono ?_; rintro e w' ⟨rfl, rfl⟩)
        | (at_builtin; refine J0.append_int rfl (.tmp 20) (.tmp 24) rfl hbuf _ (by rfl) (by rfl) (by omega) hbel.size ?_; intro g1 cap1 w1 hbuf1 bel1))
      go_roundw
      case rel => exact ⟨k + 1, cap1, _, by omega, by go_num, rfl, by rw [← HS.out]; exact hbuf1, hbel.trans bel1⟩
      case measure => simp [intOf]; omega
    · obtain rfl : k = C := by omega
      by_cases h12 : k < 12
      · have e1 : 4 + (k : Int) < 16 := by omega
        have e2 : ¬ (k : Int) < N := fun h => hlt ((hct k).2 ⟨h, h12⟩)
        have e3 : decide ((k : Int) < N) = false := by simpa using e2
        go_wp2
        go_ret
        exact ⟨a, c, rfl, hbuf, hbel⟩
      · have e1 : ¬ 4 + (k : Int) < 16 := by omega
        have e3 : decide (4 + (k : Int) < 16) = false := by simpa using e1
        go_wp2
        go_ret
        exact ⟨a, c, rfl, hbuf, hbel⟩

theorem as00 (v : Value) (w : World) : (Instr.typeAssert (.iface 132 v) 117 132 true).run Tryz.prog w = .ok (.tuple #[v, .bool true]) w := by kernel_rfl
theorem as10 (v : Value) (w : World) : (Instr.typeAssert (.iface 134 v) 117 132 true).run Tryz.prog w = .ok (.tuple #[val 0 0 0 none 0 0, .bool false]) w := by kernel_rfl
theorem as20 (v : Value) (w : World) : (Instr.typeAssert (.iface 136 v) 117 132 true).run Tryz.prog w = .ok (.tuple #[val 0 0 0 none 0 0, .bool false]) w := by kernel_rfl
theorem as11 (v : Value) (w : World) : (Instr.typeAssert (.iface 134 v) 117 134 true).run Tryz.prog w = .ok (.tuple #[v, .bool true]) w := by kernel_rfl
theorem as21 (v : Value) (w : World) : (Instr.typeAssert (.iface 136 v) 117 134 true).run Tryz.prog w = .ok (.tuple #[val 0 0 0 none 0 0, .bool false]) w := by kernel_rfl
theorem as22 (v : Value) (w : World) : (Instr.typeAssert (.iface 136 v) 117 136 false).run Tryz.prog w = .ok v w := by kernel_rfl

theorem isFree0 (v : Value) (k o s : Int) (a : Option Addr) (n c : Nat) (hv : v = val k o s a n c) (w : World) :
    Calls Tryz.prog 91 #[.iface 132 v] w fun e w' => e = .returned (.bool true) ∧ Below w.heap.size w w' := by
  have ha := as00
  subst hv
  go_enter Tryz.func91, Tryz.ntmps91
  go_wp2
  go_ret
  exact ⟨rfl, K0.below_new _ _⟩

theorem isFree1 (v : Value) (k o s : Int) (a : Option Addr) (n c : Nat) (hv : v = val k o s a n c) (w : World) :
    Calls Tryz.prog 91 #[.iface 134 v] w fun e w' => e = .returned (.bool false) ∧ Below w.heap.size w w' := by
  have ha := as10
  subst hv
  go_enter Tryz.func91, Tryz.ntmps91
  go_wp2
  go_ret
  exact ⟨rfl, K0.below_new _ _⟩

theorem isFree2 (v : Value) (k o s : Int) (a : Option Addr) (n c : Nat) (hv : v = val k o s a n c) (w : World) :
    Calls Tryz.prog 91 #[.iface 136 v] w fun e w' => e = .returned (.bool false) ∧ Below w.heap.size w w' := by
  have ha := as20
  subst hv
  go_enter Tryz.func91, Tryz.ntmps91
  go_wp2
  go_ret
  exact ⟨rfl, K0.below_new _ _⟩

theorem inodeOf0 (k o s : Int) (a : Option Addr) (n c : Nat) (w : World) :
    Calls Tryz.prog 92 #[.iface 132 (val k o s a n c)] w fun e w' => e = .returned (val 0 0 0 none 0 0) ∧ Below w.heap.size w w' := by
  have n0 := K0.blk_new (vals 0 0 0 none 0 0) w 49
  have l0 := K0.below_new w (.cells #[.int .i64 0, .int .i64 0, .int .i64 0, .slice none 0 0] 49)
  go_enter Tryz.func92, Tryz.ntmps92
  go_wp2_with (go_at_call 91; refine (isFree0 _ k o s a n c rfl _).mono ?_; rintro e w1 ⟨rfl, b1⟩; have n1 := n0.below b1; have l1 := l0.trans (b1.mono l0.size); have c0 := n1.c0; have c1 := n1.c1; have c2 := n1.c2; have c3 := n1.c3; have f0 := n1.f0; have f1 := n1.f1; have f2 := n1.f2; have f3 := n1.f3)
  have q := n1.put4 (.int .i64 0) (.int .i64 0) (.int .i64 0) (.slice none 0 0)
  refine bodyPost_ret (v := val 0 0 0 none 0 0) (by simp [results, Tryz.results92, go_sem, q.c0, q.c1, q.c2, q.c3]) rfl ⟨rfl, ?_⟩
  exact (((l1.setCell (p := ⟨w.heap.size, 0, none⟩) (Nat.le_refl _) _).setCell (p := ⟨w.heap.size, 1, none⟩) (Nat.le_refl _) _).setCell (p := ⟨w.heap.size, 2, none⟩) (Nat.le_refl _) _).setCell (p := ⟨w.heap.size, 3, none⟩) (Nat.le_refl _) _

set_option maxHeartbeats 1000000 in
theorem inodeOf1 (k o s : Int) (a : Option Addr) (n c : Nat) (w : World) :
    Calls Tryz.prog 92 #[.iface 134 (val k o s a n c)] w fun e w' => e = .returned (val k o s a n c) ∧ Below w.heap.size w w' := by
  have ha := as11
  have n0 := K0.blk_new (vals 0 0 0 none 0 0) w 49
  have l0 := K0.below_new w (.cells #[.int .i64 0, .int .i64 0, .int .i64 0, .slice none 0 0] 49)
  go_enter Tryz.func92, Tryz.ntmps92
  go_wp2_with (go_at_call 91; refine (isFree1 _ k o s a n c rfl _).mono ?_; rintro e w1 ⟨rfl, b1⟩; have n1 := (n0.below b1).alloc (.cells #[.int .i64 k, .int .i64 o, .int .i64 s, .slice a n c] 134); have l1 := (l0.trans (b1.mono l0.size)).alloc (Nat.le_trans l0.size b1.size) (.cells #[.int .i64 k, .int .i64 o, .int .i64 s, .slice a n c] 134); have c0 := n1.c0; have c1 := n1.c1; have c2 := n1.c2; have c3 := n1.c3; have f0 := n1.f0; have f1 := n1.f1; have f2 := n1.f2; have f3 := n1.f3)
  have q := n1.put4 (.int .i64 k) (.int .i64 o) (.int .i64 s) (.slice a n c)
  refine bodyPost_ret (v := val k o s a n c) (by simp [results, Tryz.results92, go_sem, q.c0, q.c1, q.c2, q.c3]) rfl ⟨rfl, ?_⟩
  exact (((l1.setCell (p := ⟨w.heap.size, 0, none⟩) (Nat.le_refl _) _).setCell (p := ⟨w.heap.size, 1, none⟩) (Nat.le_refl _) _).setCell (p := ⟨w.heap.size, 2, none⟩) (Nat.le_refl _) _).setCell (p := ⟨w.heap.size, 3, none⟩) (Nat.le_refl _) _

set_option maxHeartbeats 1000000 in
theorem inodeOf2 (k o s : Int) (a : Option Addr) (n c : Nat) (w : World) :
    Calls Tryz.prog 92 #[.iface 136 (val k o s a n c)] w fun e w' => e = .returned (val k o s a n c) ∧ Below w.heap.size w w' := by
  have ha := as21
  have hb := as22
  have n0 := K0.blk_new (vals 0 0 0 none 0 0) w 49
  have l0 := K0.below_new w (.cells #[.int .i64 0, .int .i64 0, .int .i64 0, .slice none 0 0] 49)
  go_enter Tryz.func92, Tryz.ntmps92
  go_wp2_with (go_at_call 91; refine (isFree2 _ k o s a n c rfl _).mono ?_; rintro e w1 ⟨rfl, b1⟩; have n1 := (n0.below b1).alloc (.cells #[.int .i64 0, .int .i64 0, .int .i64 0, .slice none 0 0] 134); have l1 := (l0.trans (b1.mono l0.size)).alloc (Nat.le_trans l0.size b1.size) (.cells #[.int .i64 0, .int .i64 0, .int .i64 0, .slice none 0 0] 134); have c0 := n1.c0; have c1 := n1.c1; have c2 := n1.c2; have c3 := n1.c3; have f0 := n1.f0; have f1 := n1.f1; have f2 := n1.f2; have f3 := n1.f3)
  have q := n1.put4 (.int .i64 k) (.int .i64 o) (.int .i64 s) (.slice a n c)
  refine bodyPost_ret (v := val k o s a n c) (by simp [results, Tryz.results92, go_sem, q.c0, q.c1, q.c2, q.c3]) rfl ⟨rfl, ?_⟩
  exact (((l1.setCell (p := ⟨w.heap.size, 0, none⟩) (Nat.le_refl _) _).setCell (p := ⟨w.heap.size, 1, none⟩) (Nat.le_refl _) _).setCell (p := ⟨w.heap.size, 2, none⟩) (Nat.le_refl _) _).setCell (p := ⟨w.heap.size, 3, none⟩) (Nat.le_refl _) _
end Go.Proofs.YtkdjcbmmbjongaaGreat.G1

/- The contract of impl.readRecord, as the given laws call it. -/
namespace Go.Proofs.YtkdjcbmmbjongaaGreat.G2
open Go.ChangeShapes Go.WideShapes Go.ChangeAt Go.RowKit
set_option linter.unusedVariables false
set_option linter.unusedSimpArgs false
set_option maxRecDepth 10000

open I0 (val vals)

theorem below_of_drew {w w1 : World} {n : Nat} (h : Below (w.drewN n).heap.size (w.drewN n) w1) : Below w.heap.size w w1 := ⟨h.os, h.tape, h.output, h.size, h.block⟩

/-- The record's inode in its box, with its pages. -/
structure Nd (w : World) (B : Nat) (k o s : Int) (a : Option Addr) (zs : List Int) (c : Nat) (W : World) : Prop where
  box : K0.Blk B (vals k o s a zs.length c) W
  own : J0.Own w.heap.size W a zs
  fits : zs.length ≤ c
  bel : Below w.heap.size w W

variable {w W W' : World} {B : Nat} {k o s : Int} {a : Option Addr} {zs : List Int} {c : Nat}

theorem Nd.below (h : Nd w B k o s a zs c W) (hb : Below W.heap.size W W') : Nd w B k o s a zs c W' := ⟨h.box.below hb, h.own.below hb, h.fits, h.bel.trans (hb.mono h.bel.size)⟩

theorem nd_new (hb : Below w.heap.size w W) (hi : J0.IBuf w.heap.size W a zs.length c zs) : Nd w W.heap.size k o s a zs c (W.alloc (.cells #[.int .i64 k, .int .i64 o, .int .i64 s, .slice a zs.length c] 49)) :=
  ⟨K0.blk_new (vals k o s a zs.length c) W 49, hi.own.alloc _, hi.fits, hb.alloc hb.size _⟩

/-- What readRecord answers. -/
def Ans (s : ByteArray) (w : World) (e : Ending) (w' : World) : Prop :=
  Below w.heap.size w w' ∧ ((G0.isI s = false ∧ e = .returned (.tuple #[.nilIface, .bool false])) ∨
    (G0.isI s = true ∧ ∃ a c, e = .returned (.tuple #[I1.rec (B1.byteAt s 0) (val (B1.byteAt s 0) (B1.byteAt s 1) (B6.pairAt s 2) a (G0.pgs s (G0.cnt s)).length c), .bool true]) ∧ J0.Own w.heap.size w' a (G0.pgs s (G0.cnt s)) ∧ (G0.pgs s (G0.cnt s)).length ≤ c))

theorem ans_no {s : ByteArray} {w w' : World} (h : G0.isI s = false) (hb : Below w.heap.size w w') : Ans s w (.returned (.tuple #[.nilIface, .bool false])) w' := ⟨hb, Or.inl ⟨h, rfl⟩⟩

set_option maxHeartbeats 2000000 in
theorem readRecord (s : ByteArray) (w : World) (hs : s.size ≤ 281474976710656) :
    Calls Tryz.prog 90 #[.string s] w (Ans s w) := by
  have hm : s.size ≤ maxLen := by unfold maxLen; omega
  by_cases h16 : s.size = 16
  · have g16 : ((s.size : Int) != 16) = false := by simp; omega
    have hpa := G0.pairAt_lt s 2
    have hbad := @G0.isI_bad s
    have hof := @G0.isI_of s h16
    have hnot := @G0.isI_not s
    have hans : Ans s w = fun e w' => Below w.heap.size w w' ∧ ((G0.isI s = false ∧ e = .returned (.tuple #[.nilIface, .bool false])) ∨
      (G0.isI s = true ∧ ∃ a c, e = .returned (.tuple #[I1.rec (B1.byteAt s 0) (val (B1.byteAt s 0) (B1.byteAt s 1) (B6.pairAt s 2) a (G0.pgs s (G0.cnt s)).length c), .bool true]) ∧ J0.Own w.heap.size w' a (G0.pgs s (G0.cnt s)) ∧ (G0.pgs s (G0.cnt s)).length ≤ c)) := rfl
    rw [hans]
    clear hans
    have hrp : Hid (∀ W, Calls Tryz.prog 108 #[.string s, .int .i64 (P0.need (B6.pairAt s 2))] W fun e w' => ∃ a c, e = .returned (.slice a (G0.pgs s (G0.cnt s)).length c) ∧ J0.IBuf W.heap.size w' a (G0.pgs s (G0.cnt s)).length c (G0.pgs s (G0.cnt s)) ∧ Below W.heap.size W w') := fun W => G1.readPages s W h16
    have hlen : (G0.pgs s (G0.cnt s)).length ≤ 281474976710656 := by rw [G0.pgs_length]; have := G0.cnt_le s; omega
    unfold G0.txt at hof hnot
    obtain ⟨Z, hZ⟩ : ∃ Z, G0.pgs s (G0.cnt s) = Z := ⟨_, rfl⟩
    rw [hZ] at hbad hof hnot hrp hlen ⊢
    clear hZ
    by_cases hok : I0.ok (B1.byteAt s 0) (B1.byteAt s 1) (B6.pairAt s 2) Z = true
    · by_cases htx : ((R0.putI (B1.byteAt s 0) (B1.byteAt s 1) (B6.pairAt s 2) Z).toList == s.toList) = true
      · have HI : Hid (G0.isI s = true) := hof htx
        clear hbad hof hnot
        go_enter Tryz.func90, Tryz.ntmps90
        go_wp2_with (first
          | (go_at_call 106; refine (B6.impl_PairAt _ _ _ hs).mono ?_; rintro e w0 ⟨rfl, m0, rfl⟩)
          | (go_at_call 107; refine (B1.impl_ByteAt _ _ _ hm).mono ?_; rintro e w' ⟨rfl, rfl⟩)
          | (go_at_call 58; refine (P1.pagesFor _ _ hpa.1 hpa.2).mono ?_; rintro e w' ⟨rfl, rfl⟩)
          | (go_at_call 108; refine (hrp.out _).mono ?_; rintro e w1 ⟨a, c, rfl, hib, b1⟩; have n1 := nd_new (w := w) (k := B1.byteAt s 0) (o := B1.byteAt s 1) (s := B6.pairAt s 2) (below_of_drew b1) hib)
          | (go_at_call 103; refine (I1.recordOf _ _ _ _ _ Z _ hlen n1.fits n1.own.row).mono ?_; rintro e w2 ⟨rfl, b2⟩; have n2 := n1.below b2; have c0 := n2.box.c0; have c1 := n2.box.c1; have c2 := n2.box.c2; have c3 := n2.box.c3)
          | (go_at_call 87; refine (R1.recordText _ _ _ _ _ Z _ hok n2.own.row).mono ?_; rintro e w3 ⟨rfl, b3⟩; have n3 := n2.below b3))
        go_ret2
        exact ⟨n3.bel, Or.inr ⟨HI.out, a, c, rfl, n3.own, n3.fits⟩⟩
      · have htx' : ((R0.putI (B1.byteAt s 0) (B1.byteAt s 1) (B6.pairAt s 2) Z).toList == s.toList) = false := by simpa using htx
        have HI : Hid (G0.isI s = false) := hnot htx'
        clear hbad hof hnot htx
        go_enter Tryz.func90, Tryz.ntmps90
        go_wp2_with (first
          | (go_at_call 106; refine (B6.impl_PairAt _ _ _ hs).mono ?_; rintro e w0 ⟨rfl, m0, rfl⟩)
          | (go_at_call 107; refine (B1.impl_ByteAt _ _ _ hm).mono ?_; rintro e w' ⟨rfl, rfl⟩)
          | (go_at_call 58; refine (P1.pagesFor _ _ hpa.1 hpa.2).mono ?_; rintro e w' ⟨rfl, rfl⟩)
          | (go_at_call 108; refine (hrp.out _).mono ?_; rintro e w1 ⟨a, c, rfl, hib, b1⟩; have n1 := nd_new (w := w) (k := B1.byteAt s 0) (o := B1.byteAt s 1) (s := B6.pairAt s 2) (below_of_drew b1) hib)
          | (go_at_call 103; refine (I1.recordOf _ _ _ _ _ Z _ hlen n1.fits n1.own.row).mono ?_; rintro e w2 ⟨rfl, b2⟩; have n2 := n1.below b2; have c0 := n2.box.c0; have c1 := n2.box.c1; have c2 := n2.box.c2; have c3 := n2.box.c3)
          | (go_at_call 87; refine (R1.recordText _ _ _ _ _ Z _ hok n2.own.row).mono ?_; rintro e w3 ⟨rfl, b3⟩; have n3 := n2.below b3))
        go_ret2
        exact ⟨n3.bel, Or.inl ⟨HI.out, rfl⟩⟩
    · have hok' : I0.ok (B1.byteAt s 0) (B1.byteAt s 1) (B6.pairAt s 2) Z = false := by simpa using hok
      have HI : Hid (G0.isI s = false) := hbad hok'
      clear hbad hof hnot hok
      go_enter Tryz.func90, Tryz.ntmps90
      go_wp2_with (first
        | (go_at_call 106; refine (B6.impl_PairAt _ _ _ hs).mono ?_; rintro e w0 ⟨rfl, m0, rfl⟩)
        | (go_at_call 107; refine (B1.impl_ByteAt _ _ _ hm).mono ?_; rintro e w' ⟨rfl, rfl⟩)
        | (go_at_call 58; refine (P1.pagesFor _ _ hpa.1 hpa.2).mono ?_; rintro e w' ⟨rfl, rfl⟩)
        | (go_at_call 108; refine (hrp.out _).mono ?_; rintro e w1 ⟨a, c, rfl, hib, b1⟩; have n1 := nd_new (w := w) (k := B1.byteAt s 0) (o := B1.byteAt s 1) (s := B6.pairAt s 2) (below_of_drew b1) hib)
        | (go_at_call 103; refine (I1.recordOf _ _ _ _ _ Z _ hlen n1.fits n1.own.row).mono ?_; rintro e w2 ⟨rfl, b2⟩; have n2 := n1.below b2))
      go_ret2
      exact ⟨n2.bel, Or.inl ⟨HI.out, rfl⟩⟩
  · have g16 : ((s.size : Int) != 16) = true := by simp; omega
    have HI : Hid (G0.isI s = false) := G0.isI_no h16
    go_enter Tryz.func90, Tryz.ntmps90
    go_wp2
    go_ret2
    exact ans_no HI.out (Below.refl _ _)
end Go.Proofs.YtkdjcbmmbjongaaGreat.G2

/- The contract of impl.GetInode, as the given laws call it. -/
namespace Go.Proofs.YtkdjcbmmbjongaaGreat.G3
open Go.ChangeShapes Go.WideShapes Go.ChangeAt Go.RowKit
set_option linter.unusedVariables false
set_option linter.unusedSimpArgs false
set_option maxRecDepth 10000

open I0 (val vals)

/-- What GetInode answers. -/
def Ans (s : ByteArray) (w : World) (e : Ending) (w' : World) : Prop :=
  ∃ a c, e = .returned (.tuple #[val (G0.gK s) (G0.gO s) (G0.gS s) a (G0.gZ s).length c, .bool (G0.isI s)]) ∧ J0.Own w.heap.size w' a (G0.gZ s) ∧ (G0.gZ s).length ≤ c ∧ Below w.heap.size w w'

theorem ans_no {s : ByteArray} {w w' : World} (h : G0.isI s = false) (hb : Below w.heap.size w w') : Ans s w (.returned (.tuple #[val 0 0 0 none 0 0, .bool false])) w' := by
  obtain ⟨h1, h2, h3, h4⟩ := G0.g_no h
  exact ⟨none, 0, by rw [h1, h2, h3, h4, h]; rfl, by rw [h4]; exact Or.inl rfl, by rw [h4]; exact Nat.le_refl _, hb⟩

theorem ans_yes {s : ByteArray} {w w' : World} {a : Option Addr} {c : Nat} (h : G0.isI s = true) (ho : J0.Own w.heap.size w' a (G0.pgs s (G0.cnt s))) (hc : (G0.pgs s (G0.cnt s)).length ≤ c) (hb : Below w.heap.size w w') :
    Ans s w (.returned (.tuple #[val (B1.byteAt s 0) (B1.byteAt s 1) (B6.pairAt s 2) a (G0.pgs s (G0.cnt s)).length c, .bool true])) w' := by
  obtain ⟨h1, h2, h3, h4⟩ := G0.g_yes h
  exact ⟨a, c, by rw [h1, h2, h3, h4, h], by rw [h4]; exact ho, by rw [h4]; exact hc, hb⟩

/-- A free inode. -/
theorem ans_free {s : ByteArray} {w w' : World} (h : G0.isI s = true) (hk : B1.byteAt s 0 = 0) (hb : Below w.heap.size w w') : Ans s w (.returned (.tuple #[val 0 0 0 none 0 0, .bool true])) w' := by
  have hok := (G0.isI_ok h).2.2
  rw [I0.ok, if_pos hk] at hok
  simp only [I0.free, Bool.and_eq_true, decide_eq_true_eq] at hok
  have hz : G0.pgs s (G0.cnt s) = [] := List.eq_nil_of_length_eq_zero hok.2.2
  have := ans_yes (a := none) (c := 0) h (by rw [hz]; exact Or.inl rfl) (by rw [hz]; exact Nat.le_refl _) hb
  rwa [hk, hok.1, hok.2.1, hz] at this

variable {w W W' : World}

theorem read_no {s : ByteArray} (hs : s.size ≤ 281474976710656) (h : G0.isI s = false) :
    Calls Tryz.prog 90 #[.string s] W fun e w' => e = .returned (.tuple #[.nilIface, .bool false]) ∧ Below W.heap.size W w' :=
  (G2.readRecord s W hs).mono fun e w' ⟨hb, hc⟩ => by
    rcases hc with ⟨_, he⟩ | ⟨h2, _⟩
    · exact ⟨he, hb⟩
    · rw [h] at h2; cases h2

theorem read_yes {s : ByteArray} (hs : s.size ≤ 281474976710656) (h : G0.isI s = true) {v : Value → Value} (hv : ∀ x, I1.rec (B1.byteAt s 0) x = v x) :
    Calls Tryz.prog 90 #[.string s] W fun e w' => ∃ a c, e = .returned (.tuple #[v (val (B1.byteAt s 0) (B1.byteAt s 1) (B6.pairAt s 2) a (G0.pgs s (G0.cnt s)).length c), .bool true]) ∧ J0.Own W.heap.size w' a (G0.pgs s (G0.cnt s)) ∧ (G0.pgs s (G0.cnt s)).length ≤ c ∧ Below W.heap.size W w' :=
  (G2.readRecord s W hs).mono fun e w' ⟨hb, hc⟩ => by
    rcases hc with ⟨h2, _⟩ | ⟨_, a, c, he, ho, hl⟩
    · rw [h] at h2; cases h2
    · exact ⟨a, c, by rw [he, hv], ho, hl, hb⟩

/-- The answer's block, with the pages. -/
structure Rs (w : World) (a : Option Addr) (zs : List Int) (W : World) : Prop where
  res : K0.Blk w.heap.size (vals 0 0 0 none 0 0) W
  own : J0.Own (w.heap.size + 1) W a zs
  bel : Below w.heap.size w W

theorem Rs.below {a : Option Addr} {zs : List Int} (h : Rs w a zs W) (hb : Below W.heap.size W W') : Rs w a zs W' := ⟨h.res.below hb, h.own.below hb, h.bel.trans (hb.mono h.bel.size)⟩

theorem rs_new {a : Option Addr} {zs : List Int} (hb : Below (w.alloc (.cells #[.int .i64 0, .int .i64 0, .int .i64 0, .slice none 0 0] 49)).heap.size (w.alloc (.cells #[.int .i64 0, .int .i64 0, .int .i64 0, .slice none 0 0] 49)) W)
    (ho : J0.Own (w.alloc (.cells #[.int .i64 0, .int .i64 0, .int .i64 0, .slice none 0 0] 49)).heap.size W a zs) : Rs w a zs W :=
  ⟨(K0.blk_new (vals 0 0 0 none 0 0) w 49).below hb, ho.mono (by simp), (K0.below_new w _).trans (hb.mono (by simp))⟩

theorem Rs.done {a : Option Addr} {zs : List Int} (h : Rs w a zs W) (x y z u : Value) : J0.Own w.heap.size ((((W.setCell ⟨w.heap.size, 0, none⟩ x).setCell ⟨w.heap.size, 1, none⟩ y).setCell ⟨w.heap.size, 2, none⟩ z).setCell ⟨w.heap.size, 3, none⟩ u) a zs ∧
    Below w.heap.size w ((((W.setCell ⟨w.heap.size, 0, none⟩ x).setCell ⟨w.heap.size, 1, none⟩ y).setCell ⟨w.heap.size, 2, none⟩ z).setCell ⟨w.heap.size, 3, none⟩ u) :=
  ⟨((((h.own.set (Nat.lt_succ_self _) 0 x).set (Nat.lt_succ_self _) 1 y).set (Nat.lt_succ_self _) 2 z).set (Nat.lt_succ_self _) 3 u).mono (Nat.le_succ _),
   (((h.bel.setCell (p := ⟨w.heap.size, 0, none⟩) (Nat.le_refl _) _).setCell (p := ⟨w.heap.size, 1, none⟩) (Nat.le_refl _) _).setCell (p := ⟨w.heap.size, 2, none⟩) (Nat.le_refl _) _).setCell (p := ⟨w.heap.size, 3, none⟩) (Nat.le_refl _) _⟩

set_option maxHeartbeats 2000000 in
theorem impl_GetInode (s : ByteArray) (w : World) (hs : s.size ≤ 281474976710656) : Calls Tryz.prog 80 #[.string s] w (Ans s w) := by
  by_cases hI : G0.isI s = true
  · have hok := R0.ok_bounds (G0.isI_ok hI).2.2
    by_cases h0 : B1.byteAt s 0 = 0
    · have hv : ∀ x, I1.rec (B1.byteAt s 0) x = .iface 132 x := fun x => by rw [I1.rec, if_pos h0]
      have HF : Hid (∀ w', Below w.heap.size w w' → Ans s w (.returned (.tuple #[val 0 0 0 none 0 0, .bool true])) w') := fun w' hb => ans_free hI h0 hb
      have hr : Hid (∀ W, Calls Tryz.prog 90 #[.string s] W fun e w' => ∃ a c, e = .returned (.tuple #[.iface 132 (val (B1.byteAt s 0) (B1.byteAt s 1) (B6.pairAt s 2) a (G0.pgs s (G0.cnt s)).length c), .bool true]) ∧ J0.Own W.heap.size w' a (G0.pgs s (G0.cnt s)) ∧ (G0.pgs s (G0.cnt s)).length ≤ c ∧ Below W.heap.size W w') := fun W => read_yes hs hI hv
      clear hok hv h0 hI
      go_enter Tryz.func80, Tryz.ntmps80
      go_wp2_with (first
        | (go_at_call 90; refine (hr.out _).mono ?_; rintro e w1 ⟨a, c, rfl, ho, hl, b1⟩; have r1 := rs_new b1 ho)
        | (go_at_call 92; refine (G1.inodeOf0 _ _ _ _ _ _ _).mono ?_; rintro e w2 ⟨rfl, b2⟩; have r2 := r1.below b2; have c0 := r2.res.c0; have c1 := r2.res.c1; have c2 := r2.res.c2; have c3 := r2.res.c3; have f0 := r2.res.f0; have f1 := r2.res.f1; have f2 := r2.res.f2; have f3 := r2.res.f3))
      have q := r2.res.put4 (.int .i64 0) (.int .i64 0) (.int .i64 0) (.slice none 0 0)
      have d := r2.done (.int .i64 0) (.int .i64 0) (.int .i64 0) (.slice none 0 0)
      exact bodyPost_ret (v := .tuple #[val 0 0 0 none 0 0, .bool true]) (by simp [results, Tryz.results80, go_sem, q.c0, q.c1, q.c2, q.c3]) rfl (HF.out _ d.2)
    · have HF : Hid (∀ a c w', J0.Own w.heap.size w' a (G0.pgs s (G0.cnt s)) → (G0.pgs s (G0.cnt s)).length ≤ c → Below w.heap.size w w' → Ans s w (.returned (.tuple #[val (B1.byteAt s 0) (B1.byteAt s 1) (B6.pairAt s 2) a (G0.pgs s (G0.cnt s)).length c, .bool true])) w') := fun a c w' ho hl hb => ans_yes hI ho hl hb
      by_cases h1 : B1.byteAt s 0 = 1
      · have hv : ∀ x, I1.rec (B1.byteAt s 0) x = .iface 134 x := fun x => by rw [I1.rec, if_neg h0, if_pos h1]
        have hr : Hid (∀ W, Calls Tryz.prog 90 #[.string s] W fun e w' => ∃ a c, e = .returned (.tuple #[.iface 134 (val (B1.byteAt s 0) (B1.byteAt s 1) (B6.pairAt s 2) a (G0.pgs s (G0.cnt s)).length c), .bool true]) ∧ J0.Own W.heap.size w' a (G0.pgs s (G0.cnt s)) ∧ (G0.pgs s (G0.cnt s)).length ≤ c ∧ Below W.heap.size W w') := fun W => read_yes hs hI hv
        clear hok hv h0 h1 hI
        go_enter Tryz.func80, Tryz.ntmps80
        go_wp2_with (first
          | (go_at_call 90; refine (hr.out _).mono ?_; rintro e w1 ⟨a, c, rfl, ho, hl, b1⟩; have r1 := rs_new b1 ho)
          | (go_at_call 92; refine (G1.inodeOf1 _ _ _ _ _ _ _).mono ?_; rintro e w2 ⟨rfl, b2⟩; have r2 := r1.below b2; have c0 := r2.res.c0; have c1 := r2.res.c1; have c2 := r2.res.c2; have c3 := r2.res.c3; have f0 := r2.res.f0; have f1 := r2.res.f1; have f2 := r2.res.f2; have f3 := r2.res.f3))
        have q := r2.res.put4 (.int .i64 (B1.byteAt s 0)) (.int .i64 (B1.byteAt s 1)) (.int .i64 (B6.pairAt s 2)) (.slice a (G0.pgs s (G0.cnt s)).length c)
        have d := r2.done (.int .i64 (B1.byteAt s 0)) (.int .i64 (B1.byteAt s 1)) (.int .i64 (B6.pairAt s 2)) (.slice a (G0.pgs s (G0.cnt s)).length c)
        exact bodyPost_ret (v := .tuple #[val (B1.byteAt s 0) (B1.byteAt s 1) (B6.pairAt s 2) a (G0.pgs s (G0.cnt s)).length c, .bool true]) (by simp [results, Tryz.results80, go_sem, q.c0, q.c1, q.c2, q.c3]) rfl (HF.out _ _ _ d.1 hl d.2)
      · have h2 : B1.byteAt s 0 = 2 := by omega
        have hv : ∀ x, I1.rec (B1.byteAt s 0) x = .iface 136 x := fun x => by rw [I1.rec, if_neg h0, if_neg h1, if_pos h2]
        have hr : Hid (∀ W, Calls Tryz.prog 90 #[.string s] W fun e w' => ∃ a c, e = .returned (.tuple #[.iface 136 (val (B1.byteAt s 0) (B1.byteAt s 1) (B6.pairAt s 2) a (G0.pgs s (G0.cnt s)).length c), .bool true]) ∧ J0.Own W.heap.size w' a (G0.pgs s (G0.cnt s)) ∧ (G0.pgs s (G0.cnt s)).length ≤ c ∧ Below W.heap.size W w') := fun W => read_yes hs hI hv
        clear hok hv h0 h1 h2 hI
        go_enter Tryz.func80, Tryz.ntmps80
        go_wp2_with (first
          | (go_at_call 90; refine (hr.out _).mono ?_; rintro e w1 ⟨a, c, rfl, ho, hl, b1⟩; have r1 := rs_new b1 ho)
          | (go_at_call 92; refine (G1.inodeOf2 _ _ _ _ _ _ _).mono ?_; rintro e w2 ⟨rfl, b2⟩; have r2 := r1.below b2; have c0 := r2.res.c0; have c1 := r2.res.c1; have c2 := r2.res.c2; have c3 := r2.res.c3; have f0 := r2.res.f0; have f1 := r2.res.f1; have f2 := r2.res.f2; have f3 := r2.res.f3))
        have q := r2.res.put4 (.int .i64 (B1.byteAt s 0)) (.int .i64 (B1.byteAt s 1)) (.int .i64 (B6.pairAt s 2)) (.slice a (G0.pgs s (G0.cnt s)).length c)
        have d := r2.done (.int .i64 (B1.byteAt s 0)) (.int .i64 (B1.byteAt s 1)) (.int .i64 (B6.pairAt s 2)) (.slice a (G0.pgs s (G0.cnt s)).length c)
        exact bodyPost_ret (v := .tuple #[val (B1.byteAt s 0) (B1.byteAt s 1) (B6.pairAt s 2) a (G0.pgs s (G0.cnt s)).length c, .bool true]) (by simp [results, Tryz.results80, go_sem, q.c0, q.c1, q.c2, q.c3]) rfl (HF.out _ _ _ d.1 hl d.2)
  · have hI' : G0.isI s = false := by simpa using hI
    have HF : Hid (∀ w', Below w.heap.size w w' → Ans s w (.returned (.tuple #[val 0 0 0 none 0 0, .bool false])) w') := fun w' hb => ans_no hI' hb
    have hr : Hid (∀ W, Calls Tryz.prog 90 #[.string s] W fun e w' => e = .returned (.tuple #[.nilIface, .bool false]) ∧ Below W.heap.size W w') := fun W => read_no hs hI'
    clear hI hI'
    go_enter Tryz.func80, Tryz.ntmps80
    go_wp2_with (go_at_call 90; refine (hr.out _).mono ?_; rintro e w1 ⟨rfl, b1⟩; have r1 := rs_new (a := none) (zs := []) b1 (Or.inl rfl); have c0 := r1.res.c0; have c1 := r1.res.c1; have c2 := r1.res.c2; have c3 := r1.res.c3; have f0 := r1.res.f0; have f1 := r1.res.f1; have f2 := r1.res.f2; have f3 := r1.res.f3)
    have q := r1.res.put4 (.int .i64 0) (.int .i64 0) (.int .i64 0) (.slice none 0 0)
    have d := r1.done (.int .i64 0) (.int .i64 0) (.int .i64 0) (.slice none 0 0)
    exact bodyPost_ret (v := .tuple #[val 0 0 0 none 0 0, .bool false]) (by simp [results, Tryz.results80, go_sem, q.c0, q.c1, q.c2, q.c3]) rfl (HF.out _ d.2)
end Go.Proofs.YtkdjcbmmbjongaaGreat.G3
