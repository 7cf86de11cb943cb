/- Joined texts: plain facts and contracts. -/
import Derived.Test.YtljnkicgahepfaaGreatDoorJqT
import Derived.Test.YtljnkicgahepfaaGreatDoorJqW
import Derived.Test.YtljnkicgahepfaaGreatDoorJqZ
import Derived.Test.YtljnkicgahepfaaGreatDoorJqV
import Derived.Deep.LoopGhost
import Derived.Deep.RegionHeld3
import Derived.Shelf.Strings.Builder1
import Derived.Shelf.Strings.Builder2
import Derived.Shelf.Strings.OnBuilder
import Derived.Shelf.Small.Strs
import Derived.Shelf.Strconv.Itoa0
import Derived.Shelf.Strconv.Itoa1
import Derived.Shelf.LaysM
import Derived.Shelf.Strconv.Itoa2
import Derived.Shelf.Strconv.Itoa3
import Derived.Shelf.Strconv.Clone
import Derived.Shelf.Sort.Plain
import Derived.Shelf.Slices.Turned
import Derived.Ground.Names2Prog
import Derived.Shelf.Slices.Clone
import Derived.Shelf.Slices.CompactI
import Derived.Test.YtljnkicgahepfaaGreatDoorJqA
set_option linter.unusedVariables false
set_option linter.unusedSimpArgs false
set_option maxRecDepth 10000
namespace Go.Proofs.YtljnkicgahepfaaGreatDoor.KQ
open Go.ChangeShapes Go.WideShapes Go.ChangeAt Go.RowKit
open N0 (Ln)
open N1 (Sl Lists Fit LB lb_new)
open HP (Rg at_)
open WI (rl)
open Z0 (dat Kp Lns kval)
open I2 (ints)
open X0 (mix mix_len)
open F1 (span)
def lay (a b : ByteArray) (r : Rg) : ByteArray := ⟨(mix a.data.toList b.data.toList (span (r.1.toNat / 8) ((r.1.toNat + r.2.toNat - 1) / 8))).toArray⟩
def layN (a b : ByteArray) (rs : List Rg) : Nat → ByteArray
 | 0 => b
 | k + 1 => lay a (layN a b rs k) (at_ rs k)
def layS (a b : ByteArray) (ds : List Ln) : Nat → ByteArray
 | 0 => b
 | k + 1 => layN a (layS a b ds k) (rl (dat ds k)) (rl (dat ds k)).length
theorem lay_size (a b : ByteArray) (r : Rg) : (lay a b r).size = 768 := by
 show (mix a.data.toList b.data.toList _).toArray.size = 768
 rw [List.size_toArray, mix_len]
theorem layN_size (a b : ByteArray) (rs : List Rg) (hb : b.size = 768) : ∀ k, (layN a b rs k).size = 768
 | 0 => hb
 | k + 1 => lay_size _ _ _
theorem layS_size (a b : ByteArray) (ds : List Ln) (hb : b.size = 768) : ∀ k, (layS a b ds k).size = 768
 | 0 => hb
 | k + 1 => layN_size _ _ _ (layS_size a b ds hb k) _
set_option maxHeartbeats 2000000 in
theorem rangesLast (a b : ByteArray) (d : Ln) (s : Sl) (w : World) (ha : a.size = 768) (hb : b.size = 768) (hF : Fit d s) (hpo : d.po.length ≤ 1048576) (hfr : d.fr.length ≤ 1048576) (hR : Lists w d s) :
  Calls Tryz.prog 102 #[.agg #[.string a, .string b], N1.val d s] w fun e w' => e = .returned (.agg #[.string a, .string (layN a b (rl d) (rl d).length)]) ∧ Below w.heap.size w w' := by
 have dv := K0.blk_new [.string a, .string b] w 25
 have m0 := K0.below_new w (.cells #[.string a, .string b] 25)
 have e1 : (w.alloc (.cells #[.string a, .string b] 25)).heap.size = w.heap.size + 1 := by simp
 have m1 := K0.below_new (w.alloc (.cells #[.string a, .string b] 25)) (.cells #[.int .i64 d.ino, .int .i64 d.cl, .int .i64 d.un, .string d.rc, .slice s.a1 d.pg.length s.c1, .string d.sav, .slice s.a2 d.po.length s.c2, .slice s.a3 d.fr.length s.c3] 66)
 have lb := N1.lb_new d s (w.alloc (.cells #[.string a, .string b] 25)) 66
 have e2 : ((w.alloc (.cells #[.string a, .string b] 25)).alloc (.cells #[.int .i64 d.ino, .int .i64 d.cl, .int .i64 d.un, .string d.rc, .slice s.a1 d.pg.length s.c1, .string d.sav, .slice s.a2 d.po.length s.c2, .slice s.a3 d.fr.length s.c3] 66)).heap.size = w.heap.size + 2 := by simp
 have m2 := K0.below_new ((w.alloc (.cells #[.string a, .string b] 25)).alloc (.cells #[.int .i64 d.ino, .int .i64 d.cl, .int .i64 d.un, .string d.rc, .slice s.a1 d.pg.length s.c1, .string d.sav, .slice s.a2 d.po.length s.c2, .slice s.a3 d.fr.length s.c3] 66)) (.cells #[.string ⟨#[]⟩, .string ⟨#[]⟩] 25)
 have rs := K0.blk_new [.string ⟨#[]⟩, .string ⟨#[]⟩] ((w.alloc (.cells #[.string a, .string b] 25)).alloc (.cells #[.int .i64 d.ino, .int .i64 d.cl, .int .i64 d.un, .string d.rc, .slice s.a1 d.pg.length s.c1, .string d.sav, .slice s.a2 d.po.length s.c2, .slice s.a3 d.fr.length s.c3] 66)) 25
 have dv3 := (dv.below m1).below m2
 have lb3 := lb.below m2
 have M3 := (m0.trans (m1.mono m0.size)).trans (m2.mono (Nat.le_trans m0.size m1.size))
 rw [e1] at lb3
 rw [e2] at rs
 have L3 := hR.below M3
 have c0 := lb3.c0
 have c1 := lb3.c1
 have c2 := lb3.c2
 have c3 := lb3.c3
 have c4 := lb3.c4
 have c5 := lb3.c5
 have c6 := lb3.c6
 have c7 := lb3.c7
 have hrg : Hid (∀ W, Lists W d s → Calls Tryz.prog 180 #[N1.val d s] W (R6.Ans d W)) := fun W h => R6.impl_Ranges d s W hF hpo hfr h
 have hlt3 : w.heap.size + 2 < (((w.alloc (.cells #[.string a, .string b] 25)).alloc (.cells #[.int .i64 d.ino, .int .i64 d.cl, .int .i64 d.un, .string d.rc, .slice s.a1 d.pg.length s.c1, .string d.sav, .slice s.a2 d.po.length s.c2, .slice s.a3 d.fr.length s.c3] 66)).alloc (.cells #[.string ⟨#[]⟩, .string ⟨#[]⟩] 25)).heap.size := rs.lt
 have hnr : (rl d).length = R6.nR d := WI.rl_len d
 obtain ⟨n, hn⟩ : ∃ n, (rl d).length = n := ⟨_, rfl⟩
 rw [hn] at hnr
 rw [hn]
 have hn13 : n ≤ 13 := by rw [← hn]; exact WI.rl_small d
 have HN : Hid ((rl d).length = n) := hn
 clear dv m0 m1 lb m2 e1 e2 hR hF hn
 go_enter Tryz.func102, Tryz.ntmps102
 go_wp2_with (go_at_call 180; refine (hrg.out _ L3).mono ?_; rintro e w4 ⟨a4, c4', rfl, hq4, hc4, o4, b4⟩; have M4 := M3.trans (b4.mono M3.size); have dv4 := dv3.below b4; have rs4 := rs.below b4; have r4 := WI.row_of o4)
 rw [← hnr] at *
 clear c0 c1 c2 c3 c4 c5 c6 c7 dv3 lb3 rs M3 L3 b4 o4 hrg hq4 hc4
 have hlt4 : w.heap.size + 3 ≤ ((((w.alloc (.cells #[.string a, .string b] 25)).alloc (.cells #[.int .i64 d.ino, .int .i64 d.cl, .int .i64 d.un, .string d.rc, .slice s.a1 d.pg.length s.c1, .string d.sav, .slice s.a2 d.po.length s.c2, .slice s.a3 d.fr.length s.c3] 66)).alloc (.cells #[.string ⟨#[]⟩, .string ⟨#[]⟩] 25))).heap.size := hlt3
 have r4' : rl d = [] ∨ ∃ G, a4 = some ⟨G, 0, none⟩ ∧ w.heap.size + 3 ≤ G ∧ K0.Blk G (ints (R6.rg d)) w4 := r4.imp id fun ⟨G, h1, h2, h3⟩ => ⟨G, h1, Nat.le_trans hlt4 h2, h3⟩
 clear r4 hlt3 hlt4
 go_loopw [10] (fun i w' => ∃ k : Nat, k ≤ n ∧ i = .int .i64 k ∧ K0.Blk w.heap.size [.string a, .string (layN a b (rl d) k)] w' ∧ K0.Blk (w.heap.size + 2) [.string ⟨#[]⟩, .string ⟨#[]⟩] w' ∧ (rl d = [] ∨ ∃ G, a4 = some ⟨G, 0, none⟩ ∧ w.heap.size + 3 ≤ G ∧ K0.Blk G (ints (R6.rg d)) w') ∧ Below w.heap.size w w') (fun i _ => n - (intOf i).toNat)
 case atStart => exact ⟨0, Nat.zero_le _, rfl, dv4, rs4, r4', M4⟩
 case round =>
  obtain ⟨k, hk, rfl, dvk, rsk, rk, hbel⟩ := hrel
  clear dv4 rs4 r4' M4
  by_cases hlt : k < n
  ·obtain ⟨G, rfl, hG, kG⟩ : ∃ G, a4 = some ⟨G, 0, none⟩ ∧ w.heap.size + 3 ≤ G ∧ K0.Blk G (ints (R6.rg d)) wr := by
    rcases rk with h0 | h0
    ·rw [h0] at HN
     have := HN.out
     simp at this
     omega
    ·exact h0
   have hkl : k < (rl d).length := by have := HN.out; omega
   obtain ⟨y1, y2⟩ := WI.row_get kG hkl
   obtain ⟨i1, i2, i3⟩ := WI.at_in d hkl
   have hsz := layN_size a b (rl d) hb k
   have hu : layN a b (rl d) (k + 1) = lay a (layN a b (rl d) k) (at_ (rl d) k) := rfl
   obtain ⟨r, er⟩ : ∃ r, at_ (rl d) k = r := ⟨_, rfl⟩
   rw [er] at y1 y2 i1 i2 i3 hu
   obtain ⟨u, v⟩ := r
   simp only at y1 y2 i1 i2 i3
   obtain ⟨cur, ec⟩ : ∃ cur, layN a b (rl d) k = cur := ⟨_, rfl⟩
   rw [ec] at dvk hsz hu
   have HU : Hid (layN a b (rl d) (k + 1) = lay a cur (u, v)) := hu
   have hfl : Hid (∀ W, Calls Tryz.prog 181 #[.agg #[.string a, .string cur], .int .i64 u, .int .i64 v] W fun e w' => e = .returned (.agg #[.string a, .string (lay a cur (u, v))]) ∧ Below W.heap.size W w') := fun W => F1.impl_Flush_main a cur u v W ha hsz i1 (by omega) i3
   have x1 : (0 : Int) ≤ (k : Int) := by omega
   have x2 : (k : Int) < (n : Int) := by omega
   have nb := K0.below_new wr (.cells #[.int .i64 u, .int .i64 v] 141)
   have bx := K0.blk_new [.int .i64 u, .int .i64 v] wr 141
   have z0 := bx.c0
   have z1 := bx.c1
   have dvb := dvk.below nb
   have d0 := dvb.c0
   have d1 := dvb.c1
   have Mb := hbel.trans (nb.mono hbel.size)
   clear er ec hu rk hb
   go_wp2_with (go_at_call 181; refine (hfl.out _).mono ?_; rintro e w5 ⟨rfl, b5⟩; have dv5 := dvb.below b5; have rs5 := (rsk.below nb).below b5; have k5 := (kG.below nb).below b5; have M5 := Mb.trans (b5.mono Mb.size); have f0 := dv5.c0; have f1 := dv5.c1; have g0 := dv5.f0; have g1 := dv5.f1)
   have q5 := dv5.put2 (.string a) (.string (lay a cur (u, v)))
   have rs6 := (rs5.setOther (B' := w.heap.size) (by omega) 0 (.string a)).setOther (B' := w.heap.size) (by omega) 1 (.string (lay a cur (u, v)))
   have k6 := (k5.setOther (B' := w.heap.size) (by omega) 0 (.string a)).setOther (B' := w.heap.size) (by omega) 1 (.string (lay a cur (u, v)))
   have M6 := (M5.setCell (p := ⟨w.heap.size, 0, none⟩) (Nat.le_refl _) (.string a)).setCell (p := ⟨w.heap.size, 1, none⟩) (Nat.le_refl _) (.string (lay a cur (u, v)))
   go_roundw
   case rel => exact ⟨k + 1, by omega, by go_num, by rw [HU.out]; exact q5, rs6, Or.inr ⟨G, rfl, hG, k6⟩, M6⟩
   case measure => simp [intOf]; omega
  ·obtain rfl : k = n := by omega
   have d0 := dvk.c0
   have d1 := dvk.c1
   have f0 := rsk.c0
   have f1 := rsk.c1
   have g0 := rsk.f0
   have g1 := rsk.f1
   have q := rsk.put2 (.string a) (.string (layN a b (rl d) k))
   have MF := (hbel.setCell (p := ⟨w.heap.size + 2, 0, none⟩) (Nat.le_add_right _ 2) (.string a)).setCell (p := ⟨w.heap.size + 2, 1, none⟩) (Nat.le_add_right _ 2) (.string (layN a b (rl d) k))
   clear rk
   go_wp2
   exact bodyPost_ret (v := .agg #[.string a, .string (layN a b (rl d) k)]) (by simp [results, Tryz.results102, go_sem, q.c0, q.c1]) rfl ⟨rfl, MF⟩
set_option maxHeartbeats 2000000 in
theorem restLasts (k : Kp) (a : Option Addr) (c : Nat) (ss : Nat → Sl) (w : World) (h1 : k.mem.size = 768) (h2 : k.dur.size = 768) (hn : k.ds.length ≤ 1048576) (hF : Z4.Fits k.ds ss) (hR : Lns w a k.ds ss) :
  Calls Tryz.prog 61 #[kval k a c] w fun e w' => e = .returned (.bool (k.mem.toList == (layS k.mem k.dur k.ds k.ds.length).toList)) ∧ Below w.heap.size w w' := by
 have x0 := Z4.bk_new w k a c
 have m1 := K0.below_new (w.alloc (.cells #[.string k.mem, .string k.dur, .slice a k.ds.length c, .int .i64 k.ck] 28)) (.cells #[.string k.mem, .string k.dur] 25)
 have e1 : (w.alloc (.cells #[.string k.mem, .string k.dur, .slice a k.ds.length c, .int .i64 k.ck] 28)).heap.size = w.heap.size + 1 := by simp
 have dv := K0.blk_new [.string k.mem, .string k.dur] (w.alloc (.cells #[.string k.mem, .string k.dur, .slice a k.ds.length c, .int .i64 k.ck] 28)) 25
 have M1 := x0.bel.trans (m1.mono x0.bel.size)
 have kb1 := x0.arg.below m1
 rw [e1] at dv
 have c0 := kb1.c0
 have c1 := kb1.c1
 have c2 := kb1.c2
 have HL : Hid (∀ W, Below w.heap.size w W → Lns W a k.ds ss) := fun W hb => hR.below hb
 have HF : Hid (Z4.Fits k.ds ss) := hF
 clear x0 m1 e1 hR hF
 go_enter Tryz.func61, Tryz.ntmps61
 go_wp2
 go_loopw [11] (fun i w' => ∃ j : Nat, j ≤ k.ds.length ∧ i = .int .i64 j ∧ K0.Blk (w.heap.size + 1) [.string k.mem, .string (layS k.mem k.dur k.ds j)] w' ∧ Below w.heap.size w w') (fun i _ => k.ds.length - (intOf i).toNat)
 case atStart => exact ⟨0, Nat.zero_le _, rfl, dv, M1⟩
 case round =>
  obtain ⟨j, hj, rfl, dvk, hbel⟩ := hrel
  clear dv M1 kb1 c0 c1 c2
  by_cases hlt : j < k.ds.length
  ·have ls := (HL.out _ hbel).sub j hlt
   obtain ⟨hf, hpo, hfr⟩ := HF.out j hlt
   obtain ⟨b, off, hab, hlt0, hc⟩ := (HL.out _ hbel).row.get hlt
   subst hab
   obtain ⟨y0, y1, y2, y3, y4, y5, y6, y7⟩ := hc j hlt
   have hsz := layS_size k.mem k.dur k.ds h2 j
   have hu : layS k.mem k.dur k.ds (j + 1) = layN k.mem (layS k.mem k.dur k.ds j) (rl (dat k.ds j)) (rl (dat k.ds j)).length := rfl
   obtain ⟨d, ed⟩ : ∃ d, dat k.ds j = d := ⟨_, rfl⟩
   obtain ⟨s, es⟩ : ∃ s, ss j = s := ⟨_, rfl⟩
   rw [ed, es] at ls hf
   rw [ed] at y0 y1 y2 y3 y4 y5 y6 y7 hpo hfr hu
   rw [es] at y4 y6 y7
   obtain ⟨cur, ec⟩ : ∃ cur, layS k.mem k.dur k.ds j = cur := ⟨_, rfl⟩
   rw [ec] at dvk hsz hu
   have HU : Hid (layS k.mem k.dur k.ds (j + 1) = layN k.mem cur (rl d) (rl d).length) := hu
   have hrl : Hid (∀ W, Below wr.heap.size wr W → Calls Tryz.prog 102 #[.agg #[.string k.mem, .string cur], N1.val d s] W fun e w' => e = .returned (.agg #[.string k.mem, .string (layN k.mem cur (rl d) (rl d).length)]) ∧ Below W.heap.size W w') := fun W hb => rangesLast k.mem cur d s W h1 hsz hf hpo hfr (ls.below hb)
   obtain ⟨nxt, en⟩ : ∃ nxt, layN k.mem cur (rl d) (rl d).length = nxt := ⟨_, rfl⟩
   rw [en] at hrl HU
   have x1 : (0 : Int) ≤ (j : Int) := by omega
   have x2 : (j : Int) < (k.ds.length : Int) := by omega
   have nb := K0.below_new wr (.cells #[.int .i64 d.ino, .int .i64 d.cl, .int .i64 d.un, .string d.rc, .slice s.a1 d.pg.length s.c1, .string d.sav, .slice s.a2 d.po.length s.c2, .slice s.a3 d.fr.length s.c3] 66)
   have dvb := dvk.below nb
   have d0 := dvb.c0
   have d1 := dvb.c1
   have Mb := hbel.trans (nb.mono hbel.size)
   clear ed es ec en hu hc ls hf
   go_wp2_with (go_at_call 102; refine (hrl.out _ nb).mono ?_; rintro e w5 ⟨rfl, b5⟩; have dv5 := dvb.below b5; have M5 := Mb.trans (b5.mono Mb.size); have f0 := dv5.c0; have f1 := dv5.c1; have g0 := dv5.f0; have g1 := dv5.f1)
   have q5 := dv5.put2 (.string k.mem) (.string nxt)
   have M6 := (M5.setCell (p := ⟨w.heap.size + 1, 0, none⟩) (Nat.le_succ _) (.string k.mem)).setCell (p := ⟨w.heap.size + 1, 1, none⟩) (Nat.le_succ _) (.string nxt)
   go_roundw
   case rel => exact ⟨j + 1, by omega, by go_num, by rw [HU.out]; exact q5, M6⟩
   case measure => simp [intOf]; omega
  ·obtain rfl : j = k.ds.length := by omega
   have d0 := dvk.c0
   have d1 := dvk.c1
   clear HL HF
   go_wp2
   go_ret
   exact ⟨rfl, hbel⟩
end Go.Proofs.YtljnkicgahepfaaGreatDoor.KQ
namespace Go.Proofs.YtljnkicgahepfaaGreatDoor.TW
open Go.ChangeShapes Go.WideShapes Go.ChangeAt Go.RowKit
variable {B : Nat} {N : Nat → Nd} {F : Nat → Nat} {P : Nat → ByteArray} {w W W' : World} {E : Nat → List T0.Ent}
structure Ns (B : Nat) (N : Nat → Nd) (E : Nat → List T0.Ent) (W : World) : Prop where
 ne : ∀ i, i < 8 → (N i).ne = (E i).length
 row : ∀ i, i < 8 → V1.OwnE (B + 1) W (N i).ae (E i)
 sane : TR.Sane E (fun i => (N i).k)
 few : ∀ i, (E i).length ≤ 12
 short : ∀ i e, e ∈ E i → e.2.size ≤ 14
theorem At_size {k : Nat} {p : ByteArray} {x : Nat} (hs : ∀ i e, e ∈ E i → e.2.size ≤ 14) (h : TR.At E x k p) : p.size ≤ 1 + 15 * k := by
 induction h using TR.At.ind with
 | zero => decide
 | @down d k p x nm _ hm ih =>
  have := hs _ _ hm
  have h1 : (TR.sep d).size ≤ 1 := by
   unfold TR.sep
   split <;> decide
  rw [ByteArray.size_append, ByteArray.size_append]
  simp only at this
  omega
theorem Ns.row_at (h : Ns B N E w) (hg : w.grownBy W (some B)) {i : Nat} (hi : i < 8) : T0.Row W (N i).ae (E i) := by
 rcases h.row i hi with h0 | ⟨g, e, hb, hk⟩
 ·exact Or.inl h0
 ·have hrow := (show T0.Row w (N i).ae (E i) from V1.OwnE.row (base := B + 1) (Or.inr ⟨g, e, hb, hk⟩))
  rcases hrow with h0 | ⟨b, off, ha, hlt, hc⟩
  ·exact Or.inl h0
  ·rw [e] at ha
   cases ha
   refine Or.inr ⟨g, 0, e, Nat.lt_of_lt_of_le hlt hg.size, fun j hj => ?_⟩
   have := hc j hj
   exact ⟨hg.cell this.1 (by simp; omega), hg.cell this.2 (by simp; omega)⟩
theorem gr_then {a b c : World} {row row' : Option Nat} (h : a.grownBy b row) (k : b.grownBy c row') (hr : ∀ j, row' = some j → a.heap.size ≤ j ∨ row = some j) : a.grownBy c row :=
 ⟨k.os.trans h.os, k.tape.trans h.tape, k.output.trans h.output, Nat.le_trans h.size k.size, fun i hi hne => (k.block i (Nat.lt_of_lt_of_le hi h.size) (fun e => by
  rcases hr i e.symm with h1 | h1
  ·omega
  ·exact hne h1.symm)).trans (h.block i hi hne)⟩
theorem below_gr {a b : World} {g m : Nat} (h : a.grownBy b (some g)) (hm : m ≤ g) (hs : m ≤ a.heap.size) : Below m a b :=
 ⟨h.os, h.tape, h.output, h.size, fun i hi => h.block i (by omega) (by simp; omega)⟩
theorem blk_gr {a b : World} {g c : Nat} {vs : List Value} (h : K0.Blk c vs a) (hg : a.grownBy b (some g)) (hne : c ≠ g) : K0.Blk c vs b :=
 ⟨fun j hj => hg.cell (h.cell j hj) (by simpa using hne), fun j hj => (World.frozen?_of_block (hg.block c h.lt (by simpa using hne))).trans (h.free j hj), Nat.lt_of_lt_of_le h.lt hg.size⟩
structure Mid (B : Nat) (N : Nat → Nd) (w : World) (g n cap bm m : Nat) (D : DataW Unit) (S : List (Nat × Nat)) (F : Nat → Nat) (P : Nat → ByteArray) (W : World) : Prop where
 tb : Tb B N F P W
 buf : SBuf w.heap.size W g n cap S
 met : Met bm m S D W
 grown : w.grownBy W (some B)
theorem Mid.drew {g n cap bm m : Nat} {D : DataW Unit} {S : List (Nat × Nat)} (h : Mid B N w g n cap bm m D S F P W) : Mid B N w g n cap bm m D S F P W.drew :=
 ⟨h.tb.drew, h.buf, ⟨h.met.own, h.met.has⟩, grown_drew h.grown⟩
theorem Mid.alloc {g n cap bm m : Nat} {D : DataW Unit} {S : List (Nat × Nat)} (h : Mid B N w g n cap bm m D S F P W) (o : Obj) : Mid B N w g n cap bm m D S F P (W.alloc o) :=
 ⟨h.tb.below (K0.below_new W o) h.tb.lt, h.buf.kept (World.grownBy_alloc W o none) (by simp), h.met.kept (World.grownBy_alloc W o none) (by simp), h.grown.trans (World.grownBy_alloc W o _)⟩
theorem Mid.put {g n cap bm m d k : Nat} {D : DataW Unit} {R : List (Nat × Nat)} (h : Mid B N w g n cap bm m D ((d, k) :: R) F P W) (hB : B < w.heap.size) (hne : bm ≠ g) (k' : Nat) : Mid B N w g n cap bm m D ((d, k') :: R) F P (W.setCell ⟨g, R.length * 2 + 1, none⟩ (.int .i64 (k' : Int))) := by
 have hs := (h.buf.2.stored (R.length * 2 + 1) (.int .i64 (k' : Int))).2
 have hl := h.buf.lt
 exact ⟨h.tb.below (below_gr hs hl.1 (Nat.le_of_lt (Nat.lt_of_le_of_lt hl.1 hl.2))) hB, h.buf.put k', (h.met.top k').kept hs (by simpa using hne), gr_then h.grown hs (fun j hj => by cases hj; exact Or.inl hl.1)⟩
theorem Mid.found {g n cap bm m : Nat} {D : DataW Unit} {S : List (Nat × Nat)} {F' : Nat → Nat} {P' : Nat → ByteArray} (h : Mid B N w g n cap bm m D S F P W) (hB : B < w.heap.size) (hbm : w.heap.size ≤ bm) (ht : Tb B N F' P' W') (hg : W.grownBy W' (some B)) : Mid B N w g n cap bm m D S F' P' W' :=
 ⟨ht, h.buf.kept hg (by have := h.buf.lt.1; simp; omega), h.met.kept hg (by simp; omega), h.grown.trans hg⟩
structure St (B : Nat) (N : Nat → Nd) (E : Nat → List T0.Ent) (w : World) (left : Nat) (g n cap bm : Nat) (S : List (Nat × Nat)) (F : Nat → Nat) (P : Nat → ByteArray) (W : World) : Prop where
 tb : Tb B N F P W
 inv : TR.Inv E (fun i => (N i).k) S F P
 buf : SBuf w.heap.size W g n cap S
 met : ∃ m D, Met bm m S D W ∧ m + left ≤ 281474976710656
 bm : w.heap.size ≤ bm ∧ bm ≠ g
 num : ∀ x, F x + left ≤ 281474976710656
 left : left = TR.left E S
 grown : w.grownBy W (some B)
theorem St.drew {left g n cap bm : Nat} {S : List (Nat × Nat)} (h : St B N E w left g n cap bm S F P W) : St B N E w left g n cap bm S F P W.drew :=
 ⟨h.tb.drew, h.inv, h.buf, by obtain ⟨m, D, h1, h2⟩ := h.met; exact ⟨m, D, ⟨h1.own, h1.has⟩, h2⟩, h.bm, h.num, h.left, grown_drew h.grown⟩
theorem left_le (hf : ∀ i, (E i).length ≤ 12) : ∀ S : List (Nat × Nat), TR.left E S ≤ 13 * 16 ^ 8 * S.length
 | [] => Nat.zero_le _
 | q :: R => by
  have ih := left_le hf R
  have h1 := hf q.1
  have h2 : 16 ^ (8 - (R.length + 1)) ≤ 16 ^ 8 := Nat.pow_le_pow_right (by decide) (by omega)
  have h3 : ((E q.1).length - q.2 + 1) * 16 ^ (8 - (R.length + 1)) ≤ 13 * 16 ^ 8 := Nat.mul_le_mul (by omega) h2
  simp only [TR.left, List.length_cons]
  rw [Nat.mul_succ]
  omega
set_option maxHeartbeats 4000000 in
theorem walk (w : World) (hT : Tb B N (fun _ => 0) (fun _ => ⟨#[]⟩) w) (hN : Ns B N E w) (hK0 : (N 0).k = 2) :
  Calls Tryz.prog 135 #[.pointer (some ⟨B, 0, none⟩)] w fun e w' => w.grownBy w' (some B) ∧
   ((e = .returned (.bool false) ∧ TR.treeOk E (fun i => (N i).k) = false) ∨ (e = .returned (.bool true) ∧ ∃ F P, Tb B N F P w' ∧ TR.Inv E (fun i => (N i).k) [] F P ∧ ∀ x, F x ≤ 281474976710656)) := by
 have hmm := @run_makeMap Tryz.prog
 have x0 := hT.pth 0 (by decide)
 have y0 := hT.free 56 (by decide)
 have t1 := hT.setP (i := 0) (by decide) ⟨#[47]⟩
 have g1 : w.grownBy (w.setCell ⟨B, 56, none⟩ (.string ⟨#[47]⟩)) (some B) := Lib.grownBy_setCell _ B 56 _
 have hs1 : (w.setCell ⟨B, 56, none⟩ (.string ⟨#[47]⟩)).heap.size = w.heap.size := by simp [World.setCell]
 have s2 := sbuf_new (base := w.heap.size) (w.setCell ⟨B, 56, none⟩ (.string ⟨#[47]⟩)) (by rw [hs1]; exact Nat.le_refl _)
 have o3 := World.ownsMap_made (H := Unit) ((w.setCell ⟨B, 56, none⟩ (.string ⟨#[47]⟩)).alloc (.cells #[.int .i64 0, .int .i64 0] 219)) Tryz.prog 3 (plainElem Tryz.prog 3)
 have hs2 : ((w.setCell ⟨B, 56, none⟩ (.string ⟨#[47]⟩)).alloc (.cells #[.int .i64 0, .int .i64 0] 219)).heap.size = w.heap.size + 1 := by simp
 rw [hs2] at o3
 obtain ⟨w3, hrun3, own3, turn3⟩ := o3.store keyed Tryz.underlying221 (by unfold maxLen; omega) (key := .int .i64 0) (val := .int .i64 0) (kl := .int .i64 0) (Go.Maps.keyOf_int_mk Tryz.underlying3 (by decide)) (plainElem_int Tryz.underlying3 (by decide))
 have st0 : St B N E w (TR.left E [(0, 0)]) w.heap.size 1 1 (w.heap.size + 1) [(0, 0)] (fun _ => 0) (fun i => if i = 0 then ⟨#[47]⟩ else ⟨#[]⟩) w3 := by
  have hl := left_le hN.few [(0, 0)]
  simp only [List.length_cons, List.length_nil] at hl
  have gt := turn3.grown
  have ga := (World.grownBy_alloc (w.setCell ⟨B, 56, none⟩ (.string ⟨#[47]⟩)) (.cells #[.int .i64 0, .int .i64 0] 219) none)
  have gb := (World.grownBy_alloc ((w.setCell ⟨B, 56, none⟩ (.string ⟨#[47]⟩)).alloc (.cells #[.int .i64 0, .int .i64 0] 219)) (.map #[] 0) none)
  have hBw := hT.lt
  refine ⟨?_, TR.start, ?_, ⟨1, _, ⟨own3, ?_⟩, by omega⟩, ⟨by omega, by omega⟩, fun x => by omega, rfl, ?_⟩
  ·have h1 : Below (B + 1) (w.setCell ⟨B, 56, none⟩ (.string ⟨#[47]⟩)) w3 := by
    refine ⟨?_, ?_, ?_, ?_, fun k hk => ?_⟩
    ·exact gt.os.trans (gb.os.trans ga.os)
    ·exact gt.tape.trans (gb.tape.trans ga.tape)
    ·exact gt.output.trans (gb.output.trans ga.output)
    ·exact Nat.le_trans ga.size (Nat.le_trans gb.size gt.size)
    ·rw [gt.block k (by simp; omega) (by simp; omega), gb.block k (by simp; omega) (by simp), ga.block k (by simp; omega) (by simp)]
   exact t1.below h1 (by omega)
  ·have := (s2.kept gb (by simp)).kept gt (by rw [hs1]; simp)
   rw [hs1] at this
   exact this
  ·intro x
   exact has_put (S := []) Maps.isMap_empty 0 _ (fun y => rfl) x
  ·exact gr_then ((g1.trans (World.grownBy_alloc _ _ _)).trans (World.grownBy_alloc _ _ _)) gt (fun j hj => by cases hj; left; omega)
 clear own3 turn3 o3 s2 t1 g1 hs1 hs2
 go_enter Tryz.func135, Tryz.ntmps135
 go_wp2
 go_step3
 go_wp2
 go_step3
 go_wp2
 have hT0 := hT.lt
 clear hrun3 hmm x0 y0 hT
 go_loopg [3] (TR.left E [(0, 0)]) (fun gk v wx => ∃ (g n cap : Nat) (S : List (Nat × Nat)) (F : Nat → Nat) (P : Nat → ByteArray), v = .slice (some ⟨g, 0, none⟩) n cap ∧ St B N E w gk g n cap (w.heap.size + 1) S F P wx)
 case atStart => exact ⟨_, _, _, _, _, _, rfl, st0⟩
 case round =>
  obtain ⟨g, n, cap, S, F, P, rfl, st⟩ := hrel
  clear st0
  obtain ⟨go, rfl⟩ : ∃ go, go = gk := ⟨_, rfl⟩
  obtain ⟨wo, rfl⟩ : ∃ wo, wo = wr := ⟨_, rfl⟩
  cases S with
  | nil =>
   have hn : n = 0 := st.buf.1
   subst hn
   go_wp2
   try rw [Exit.noGoto_ret]
   go_ret
   exact ⟨st.grown, Or.inr ⟨rfl, F, P, st.tb, st.inv, fun x => Nat.le_trans (Nat.le_add_right _ _) (st.num x)⟩⟩
  | cons q R =>
   obtain ⟨d, k⟩ := q
   have hn : n = R.length + 1 := st.buf.1
   subst hn
   have hd := (st.inv.lt (d, k) (by simp)).1
   have hBw := hT0
   have i0 := st.buf.ino
   have e0 := st.tb.ents hd
   rw [hN.ne d hd] at e0
   obtain ⟨ae, hae⟩ : ∃ ae, (N d).ae = ae := ⟨_, rfl⟩
   have HAE : Hid ((N d).ae = ae) := hae
   rw [hae] at e0
   clear hae
   have hlen := st.inv.len
   simp only [List.length_cons] at hlen
   have a1 : (0 : Int) < ((R.length + 1 : Nat) : Int) := by omega
   have a2 : IntKind.i64.wrap (((R.length + 1 : Nat) : Int) - 1) = (R.length : Int) := by rw [IntKind.wrap_i64]; omega
   have a3 : (0 : Int) ≤ (R.length : Int) := by omega
   have a4 : (R.length : Int) < ((R.length + 1 : Nat) : Int) := by omega
   have a5 : (0 : Int) ≤ (d : Int) := by omega
   have a6 : (d : Int) < 8 := by omega
   go_wp2
   go_region
   go_wp2
   clear i0 e0 a1 a2
   go_loopg [3] go (fun gj v wx => ∃ (k : Nat) (F : Nat → Nat) (P : Nat → ByteArray), gj ≤ go ∧ v = .slice (some ⟨g, 0, none⟩) (R.length + 1) cap ∧ St B N E w gj g (R.length + 1) cap (w.heap.size + 1) ((d, k) :: R) F P wx)
   case atStart => exact ⟨k, F, P, Nat.le_refl _, rfl, st.drew⟩
   case round =>
    clear st
    obtain ⟨k, F, P, hle, rfl, st⟩ := hrel
    obtain ⟨m, D, hmet, hml⟩ := st.met
    have mid0 : Mid B N w g (R.length + 1) cap (w.heap.size + 1) m D ((d, k) :: R) F P wr := ⟨st.tb, st.buf, hmet, st.grown⟩
    have n0 := st.buf.next
    have hbm := st.bm
    by_cases hk : k < (E d).length
    ·have hmem := TR.mem_ent hk
     have hin := hN.sane.ino d _ hmem
     have hsh := hN.short d _ hmem
     have hrow := hN.row_at st.grown hd
     rw [HAE.out] at hrow
     obtain ⟨b, off, hab, hbl, hc⟩ := hrow.get hk
     subst hab
     have x1 := (hc k hk).1
     have x2 := (hc k hk).2
     obtain ⟨x, hx⟩ : ∃ x : Nat, (T0.ent (E d) k).1 = (x : Int) := ⟨(T0.ent (E d) k).1.toNat, by omega⟩
     obtain ⟨nm, hnm⟩ : ∃ nm, (T0.ent (E d) k).2 = nm := ⟨_, rfl⟩
     have HX : Hid ((T0.ent (E d) k).1 = (x : Int)) := hx
     have HM : Hid ((T0.ent (E d) k).2 = nm) := hnm
     rw [hx] at x1 hin
     rw [hnm] at x2 hsh
     clear hx hnm hc hrow hmem hbl
     have mid1 := mid0.alloc (.cells #[.int .i64 (x : Int), .string nm] 188)
     have mid2 := mid1.put hBw hbm.2 (k + 1)
     have eC : (((k + 1 : Nat)) : Int) = (k : Int) + 1 := by omega
     rw [eC] at mid2
     have be := K0.blk_new [.int .i64 (x : Int), .string nm] wr 188
     have be2 := be.setOther (B' := g) (by have := st.buf.lt; omega) (R.length * 2 + 1) (.int .i64 ((k : Int) + 1))
     have c0 := be.c0
     have c1 := be.c1
     have c2 := be2.c0
     have c3 := be2.c1
     have n1 := mid1.buf.next
     have f1 := mid1.buf.free (R.length * 2 + 1)
     have p1 := mid1.buf.ino
     have p2 := mid2.buf.ino
     have b1 : (0 : Int) ≤ (k : Int) := by omega
     have b2 : (k : Int) < ((E d).length : Int) := by omega
     have b3 : IntKind.i64.wrap ((k : Int) + 1) = (k : Int) + 1 := by
      have := hN.few d
      rw [IntKind.wrap_i64]
      omega
     have hkey : keyOf Tryz.prog 3 (.int .i64 (x : Int)) = some (.int .i64 (x : Int)) := Go.Maps.keyOf_int_mk Tryz.underlying3 (wf_nat x (by omega))
     have hown2 := mid2.met.own
     have hhas := hmet.has x
     cases hm : TR.metIn ((d, k) :: R) x with
     | true =>
      rw [hm] at hhas
      have HB : Hid (TR.treeOk E (fun i => (N i).k) = false) := st.inv.back hN.sane hk HX.out hm
      have HG : Hid (w.grownBy ((wr.alloc (.cells #[.int .i64 (x : Int), .string nm] 188)).setCell ⟨g, R.length * 2 + 1, none⟩ (.int .i64 ((k : Int) + 1))) (some B)) := mid2.grown
      clear mid0 mid1 mid2 be be2 st hmet hN hm
      go_wp2_with (at_lookup; refine wpList_lookup_own_ok_int _ rfl _ _ 221 rfl 3 3 .i64 keyed Tryz.underlying221 Tryz.underlying3 (zeroI _) (w.heap.size + 1) m D rfl hown2 _ _ rfl hkey ?_; intro c hat hwc)
      try rw [Exit.noGoto_ret]
      go_ret
      exact ⟨HG.out, Or.inl ⟨rfl, HB.out⟩⟩
     | false =>
      rw [hm] at hhas
      have hx8 : x < 8 := by omega
      have hl0 : 0 < gk := by
       rw [st.left]
       exact Nat.lt_of_le_of_lt (Nat.zero_le _) TR.left_pop
      have hFx : F x < 281474976710656 := by have := st.num x; omega
      have hPd : (P d).size ≤ 281474976710656 := by
       have := At_size hN.short (st.inv.atS [] (d, k) R rfl)
       simp only at this
       omega
      have mid2d := mid2.drew
      have hBG : wr.heap.size ≠ B := by have := st.tb.lt; omega
      have HGL : Hid ((w.heap.size ≤ g ∧ g < wr.heap.size) ∧ w.heap.size + 1 < wr.heap.size) := ⟨st.buf.lt, hmet.lt⟩
      have HF : Hid (∀ W, Tb B N F P W → Calls Tryz.prog 191 #[.pointer (some ⟨B, 0, none⟩), .int .i64 (d : Int), .agg #[.int .i64 (x : Int), .string nm]] W fun e w' => e = .returned (.tuple #[]) ∧ Tb B N (TR.upF F x) (TR.upP P x (P d ++ TR.sep d ++ nm)) w' ∧ W.grownBy w' (some B)) := fun W h => find d x nm W h hd hx8 hFx hPd (by omega)
      have HI : Hid (TR.Inv E (fun i => (N i).k) ((d, k) :: R) F P ∧ TR.metIn ((d, k) :: R) x = false ∧ gk = TR.left E ((d, k) :: R) ∧ ∀ y, F y + gk ≤ 281474976710656) := ⟨st.inv, hm, st.left, st.num⟩
      have be2d := be2.drew
      have HN : Hid (Ns B N E w) := hN
      clear mid0 mid1 mid2 be be2 st hmet hm hPd hFx hN
      go_wp2_with (at_lookup; refine wpList_lookup_own_ok_int _ rfl _ _ 221 rfl 3 3 .i64 keyed Tryz.underlying221 Tryz.underlying3 (zeroI _) (w.heap.size + 1) m D rfl hown2 _ _ rfl hkey ?_; intro c hat hwc)
      clear hown2 x1 x2 n0 n1 f1 b1 b2 b3
      have hS2 : ((wr.alloc (.cells #[.int .i64 (x : Int), .string nm] 188)).setCell ⟨g, R.length * 2 + 1, none⟩ (.int .i64 ((k : Int) + 1))).drew.cell? ⟨g, R.length * 2, none⟩ = some (.int .i64 (d : Int)) ∧ ((wr.alloc (.cells #[.int .i64 (x : Int), .string nm] 188)).setCell ⟨g, R.length * 2 + 1, none⟩ (.int .i64 ((k : Int) + 1))).drew.cell? ⟨wr.heap.size, 0, none⟩ = some (.int .i64 (x : Int)) ∧ ((wr.alloc (.cells #[.int .i64 (x : Int), .string nm] 188)).setCell ⟨g, R.length * 2 + 1, none⟩ (.int .i64 ((k : Int) + 1))).drew.cell? ⟨wr.heap.size, 1, none⟩ = some (.string nm) := ⟨mid2d.buf.ino, be2d.c0, be2d.c1⟩
      go_region_held3 (fun W => W.cell? ⟨g, R.length * 2, none⟩ = some (.int .i64 (d : Int)) ∧ W.cell? ⟨wr.heap.size, 0, none⟩ = some (.int .i64 (x : Int)) ∧ W.cell? ⟨wr.heap.size, 1, none⟩ = some (.string nm)) (assumption) ((go_at_call 191; refine (HF.out _ mid2d.tb).mono ?_; rintro e w3 ⟨rfl, t3, g3⟩; have mid3 := mid2d.found hBw hbm.1 t3 g3; have be3 := blk_gr be2d g3 hBG; have hS3 : w3.cell? ⟨g, R.length * 2, none⟩ = some (.int .i64 (d : Int)) ∧ w3.cell? ⟨wr.heap.size, 0, none⟩ = some (.int .i64 (x : Int)) ∧ w3.cell? ⟨wr.heap.size, 1, none⟩ = some (.string nm) := ⟨mid3.buf.ino, be3.c0, be3.c1⟩))
      have hkd := mid3.tb.kind hx8
      have q0 := be3.c0
      have x5 : (0 : Int) ≤ (x : Int) := by omega
      have x6 : (x : Int) < 8 := by omega
      obtain ⟨kx, hkx⟩ : ∃ kx, (N x).k = kx := ⟨_, rfl⟩
      have HKX : Hid ((N x).k = kx) := hkx
      rw [hkx] at hkd
      clear hkx hS2 hS3 mid2d be2d HF c0 c1 c2 c3 p1 p2 hhas g3 t3
      obtain ⟨I1, I2, I3, I4⟩ := HI.out
      obtain ⟨F', eF⟩ : ∃ F', TR.upF F x = F' := ⟨_, rfl⟩
      obtain ⟨P', eP⟩ : ∃ P', TR.upP P x (P d ++ TR.sep d ++ nm) = P' := ⟨_, rfl⟩
      have hup : ∀ y, F' y ≤ F y + 1 := fun y => by
       rw [← eF, TR.upF]
       split <;> omega
      rw [eF, eP] at mid3
      by_cases hK : kx = 2
      ·have HJ : Hid (TR.Inv E (fun i => (N i).k) ((x, 0) :: (d, k + 1) :: R) F' P' ∧ TR.left E ((x, 0) :: (d, k + 1) :: R) < gk) := by
        refine ⟨?_, ?_⟩
        ·have := I1.dir hk HX.out I2 (show (N x).k = 2 from HKX.out.trans hK) (by omega) hx8
         rw [HM.out, eF, eP] at this
         exact this
        ·rw [I3]
         refine TR.left_dir hk (Nat.le_trans (HN.out.few x) (by decide)) ?_
         have := (I1.dir hk HX.out I2 (show (N x).k = 2 from HKX.out.trans hK) (by omega) hx8).len
         simpa using this
       have HL : Hid (m + gk ≤ 281474976710656 ∧ ∀ y, F y + gk ≤ 281474976710656) := ⟨hml, I4⟩
       have hm48 : m < maxLen := by unfold maxLen; omega
       have mid3d := (mid3.drew).drew
       have hown3 := mid3.met.own
       have hwf : (Lit.int .i64 ((R.length : Int) + 1)).wf = true := wf_nat (R.length + 1) (by omega)
       clear I1 I2 I3 I4 eF eP
       subst hK
       go_wp2
       go_region
       have hown4 : ((w3.drew).ownsMap Tryz.prog 3 (plainElem (H := Unit) Tryz.prog 3) (w.heap.size + 1) m D) := hown3
       go_wp2_with (first
        | (at_mapUpdate; refine wpList_mapUpdate_in _ rfl _ _ _ 221 rfl 3 3 keyed Tryz.underlying221 _ (w.heap.size + 1) m D rfl hown4 hm48 _ _ _ rfl rfl hkey _ [] (plainElem_int Tryz.underlying3 hwf) ?_; intro w4 own4 turn4; have be4 := blk_gr be3.drew turn4.grown (by have := HGL.out; omega); have q4 := be4.c0; have buf4 := (mid3.buf.drew).kept turn4.grown (by simpa using hbm.2.symm))
        | (at_builtin; refine append_step rfl (.tmp 87) (.tmp 91) rfl buf4 x (by rfl) (by rfl) (by omega) (by have := HGL.out; have := turn4.grown.size; have := buf4.lt; omega) ?_; intro g5 cap5 w5 buf5 gr5 hl5))
       clear hown3 hown4 q0 q4 hkd
       have HO := HJ.out
       go_roundg (TR.left E ((x, 0) :: (d, k + 1) :: R))
       case measure => omega
       case rel =>
        have hL := HL.out
        have hG := HGL.out
        have hlt5 : (w.heap.size : Nat) + 1 ≠ g5 := by
         rcases hl5 with e | e
         ·rw [e]
          exact hbm.2
         ·have h1 := turn4.grown.size
          have h2 := be3.lt
          have h3 : w3.drew.heap.size = w3.heap.size := rfl
          omega
        have t4 := mid3.tb.drew.below (below_gr turn4.grown (m := w.heap.size) (by omega) (by have h2 := be3.lt; have h3 : w3.drew.heap.size = w3.heap.size := rfl; omega)) hBw
        have t5 := t4.below (below_gr gr5 (m := w.heap.size) hG.1.1 (by have h1 := turn4.grown.size; have h2 := be3.lt; have h3 : w3.drew.heap.size = w3.heap.size := rfl; omega)) hBw
        exact ⟨g5, R.length + 1 + 1, cap5, (x, 0) :: (d, k + 1) :: R, F', P', rfl, ⟨t5, HO.1, buf5, ⟨m + 1, _, ⟨own4.kept gr5 (by simpa using hbm.2), has_put mid3.met.own.isMap x _ mid3.met.has⟩, by omega⟩, ⟨hbm.1, hlt5⟩, fun y => by have := hL.2 y; have := hup y; omega, rfl, gr_then (gr_then (grown_drew mid3.grown) turn4.grown (fun j hj => by cases hj; left; omega)) gr5 (fun j hj => by cases hj; exact Or.inl hG.1.1)⟩⟩
      ·have HJ : Hid (TR.Inv E (fun i => (N i).k) ((d, k + 1) :: R) F' P' ∧ TR.left E ((d, k + 1) :: R) < gk) := by
        refine ⟨?_, ?_⟩
        ·have := I1.file hk HX.out I2 (show ¬ (N x).k = 2 from fun e => hK (HKX.out.symm.trans e)) (by omega)
         rw [HM.out, eF, eP] at this
         exact this
        ·rw [I3]
         exact TR.left_file hk
       have HL : Hid (m + gk ≤ 281474976710656 ∧ ∀ y, F y + gk ≤ 281474976710656) := ⟨hml, I4⟩
       have hK' : (kx == 2) = false := by simpa using hK
       clear I1 I2 I3 I4 eF eP
       go_wp2
       go_region
       go_wp2
       have HO := HJ.out
       go_roundg (TR.left E ((d, k + 1) :: R))
       case measure => omega
       case rel =>
        have hL := HL.out
        exact ⟨k + 1, F', P', by omega, rfl, ⟨mid3.tb.drew, HO.1, mid3.buf.drew, ⟨m, D, ⟨mid3.met.own, mid3.met.has⟩, by omega⟩, hbm, fun y => by have := hL.2 y; have := hup y; omega, rfl, grown_drew mid3.grown⟩⟩
    ·have b2 : ¬ ((k : Int) < ((E d).length : Int)) := by omega
     have i1 := st.buf.ino
     have hkey : keyOf Tryz.prog 3 (.int .i64 (d : Int)) = some (.int .i64 (d : Int)) := Go.Maps.keyOf_int_mk Tryz.underlying3 (wf_nat d (by omega))
     have hown := hmet.own
     have hcap := st.buf.room
     have c1 : (R.length : Int) ≤ (cap : Int) := by omega
     have c2 : IntKind.i64.wrap (((R.length + 1 : Nat) : Int) - 1) = (R.length : Int) := by rw [IntKind.wrap_i64]; omega
     have HS : Hid (St B N E w gk g (R.length + 1) cap (w.heap.size + 1) ((d, k) :: R) F P wr) := st
     have HM : Hid (Met (w.heap.size + 1) m ((d, k) :: R) D wr ∧ m + gk ≤ 281474976710656) := ⟨hmet, hml⟩
     clear mid0 st hmet hml hN
     go_wp2_with (at_delete; refine wpList_delete_own _ rfl _ _ 221 3 rfl 3 keyed Tryz.underlying221 _ (w.heap.size + 1) m D rfl hown _ _ rfl hkey ?_; intro w1 own1 turn1)
     have hs := HS.out
     have hl := hs.left
     have hp : TR.left E R < TR.left E ((d, k) :: R) := TR.left_pop
     go_roundg (TR.left E R)
     case measure => omega
     case rel =>
      have hm' := HM.out
      have hBl := hm'.1.lt
      refine ⟨g, R.length, cap, R, F, P, rfl, ⟨hs.tb.below (below_gr turn1.grown (m := w.heap.size) (by omega) (by omega)) hBw, hs.inv.pop hk, hs.buf.pop.kept turn1.grown (by simpa using hbm.2.symm), ⟨m, _, ⟨own1, has_del hs.inv.nodup hm'.1.has⟩, by omega⟩, hbm, fun y => by have := hs.num y; omega, rfl, gr_then hs.grown turn1.grown (fun j hj => by cases hj; left; omega)⟩⟩
end Go.Proofs.YtljnkicgahepfaaGreatDoor.TW
