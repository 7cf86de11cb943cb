/- Joined texts: plain facts and contracts. -/
import Derived.Test.YtljnkicgahepfaaGreatDoorJlQ
import Derived.Test.YtljnkicgahepfaaGreatDoorJlZD
import Derived.Test.YtljnkicgahepfaaGreatDoorJlZG
import Derived.Test.YtljnkicgahepfaaGreatDoorJlP
set_option linter.unusedVariables false
set_option linter.unusedSimpArgs false
set_option maxRecDepth 10000
namespace Go.Proofs.YtljnkicgahepfaaGreatDoor.KQ
open Go.ChangeShapes Go.WideShapes Go.ChangeAt Go.RowKit
open N0 (Ln)
open N1 (Sl Lists Fit LB lb_new)
open HP (Rg at_)
open WI (rl)
open Z0 (dat Kp Lns kval)
open I2 (ints)
open X0 (mix mix_len)
open F1 (span)
def lay (a b : ByteArray) (r : Rg) : ByteArray := ⟨(mix a.data.toList b.data.toList (span (r.1.toNat / 8) ((r.1.toNat + r.2.toNat - 1) / 8))).toArray⟩
def layN (a b : ByteArray) (rs : List Rg) : Nat → ByteArray
 | 0 => b
 | k + 1 => lay a (layN a b rs k) (at_ rs k)
def layS (a b : ByteArray) (ds : List Ln) : Nat → ByteArray
 | 0 => b
 | k + 1 => layN a (layS a b ds k) (rl (dat ds k)) (rl (dat ds k)).length
theorem lay_size (a b : ByteArray) (r : Rg) : (lay a b r).size = 768 := by
 show (mix a.data.toList b.data.toList _).toArray.size = 768
 rw [List.size_toArray, mix_len]
theorem layN_size (a b : ByteArray) (rs : List Rg) (hb : b.size = 768) : ∀ k, (layN a b rs k).size = 768
 | 0 => hb
 | k + 1 => lay_size _ _ _
theorem layS_size (a b : ByteArray) (ds : List Ln) (hb : b.size = 768) : ∀ k, (layS a b ds k).size = 768
 | 0 => hb
 | k + 1 => layN_size _ _ _ (layS_size a b ds hb k) _
set_option maxHeartbeats 2000000 in
theorem rangesLast (a b : ByteArray) (d : Ln) (s : Sl) (w : World) (ha : a.size = 768) (hb : b.size = 768) (hF : Fit d s) (hpo : d.po.length ≤ 1048576) (hfr : d.fr.length ≤ 1048576) (hR : Lists w d s) :
  Calls Tryz.prog 102 #[.agg #[.string a, .string b], N1.val d s] w fun e w' => e = .returned (.agg #[.string a, .string (layN a b (rl d) (rl d).length)]) ∧ Below w.heap.size w w' := by
 have dv := K0.blk_new [.string a, .string b] w 25
 have m0 := K0.below_new w (.cells #[.string a, .string b] 25)
 have e1 : (w.alloc (.cells #[.string a, .string b] 25)).heap.size = w.heap.size + 1 := by simp
 have m1 := K0.below_new (w.alloc (.cells #[.string a, .string b] 25)) (.cells #[.int .i64 d.ino, .int .i64 d.cl, .int .i64 d.un, .string d.rc, .slice s.a1 d.pg.length s.c1, .string d.sav, .slice s.a2 d.po.length s.c2, .slice s.a3 d.fr.length s.c3] 66)
 have lb := N1.lb_new d s (w.alloc (.cells #[.string a, .string b] 25)) 66
 have e2 : ((w.alloc (.cells #[.string a, .string b] 25)).alloc (.cells #[.int .i64 d.ino, .int .i64 d.cl, .int .i64 d.un, .string d.rc, .slice s.a1 d.pg.length s.c1, .string d.sav, .slice s.a2 d.po.length s.c2, .slice s.a3 d.fr.length s.c3] 66)).heap.size = w.heap.size + 2 := by simp
 have m2 := K0.below_new ((w.alloc (.cells #[.string a, .string b] 25)).alloc (.cells #[.int .i64 d.ino, .int .i64 d.cl, .int .i64 d.un, .string d.rc, .slice s.a1 d.pg.length s.c1, .string d.sav, .slice s.a2 d.po.length s.c2, .slice s.a3 d.fr.length s.c3] 66)) (.cells #[.string ⟨#[]⟩, .string ⟨#[]⟩] 25)
 have rs := K0.blk_new [.string ⟨#[]⟩, .string ⟨#[]⟩] ((w.alloc (.cells #[.string a, .string b] 25)).alloc (.cells #[.int .i64 d.ino, .int .i64 d.cl, .int .i64 d.un, .string d.rc, .slice s.a1 d.pg.length s.c1, .string d.sav, .slice s.a2 d.po.length s.c2, .slice s.a3 d.fr.length s.c3] 66)) 25
 have dv3 := (dv.below m1).below m2
 have lb3 := lb.below m2
 have M3 := (m0.trans (m1.mono m0.size)).trans (m2.mono (Nat.le_trans m0.size m1.size))
 rw [e1] at lb3
 rw [e2] at rs
 have L3 := hR.below M3
 have c0 := lb3.c0
 have c1 := lb3.c1
 have c2 := lb3.c2
 have c3 := lb3.c3
 have c4 := lb3.c4
 have c5 := lb3.c5
 have c6 := lb3.c6
 have c7 := lb3.c7
 have hrg : Hid (∀ W, Lists W d s → Calls Tryz.prog 180 #[N1.val d s] W (R6.Ans d W)) := fun W h => R6.impl_Ranges d s W hF hpo hfr h
 have hlt3 : w.heap.size + 2 < (((w.alloc (.cells #[.string a, .string b] 25)).alloc (.cells #[.int .i64 d.ino, .int .i64 d.cl, .int .i64 d.un, .string d.rc, .slice s.a1 d.pg.length s.c1, .string d.sav, .slice s.a2 d.po.length s.c2, .slice s.a3 d.fr.length s.c3] 66)).alloc (.cells #[.string ⟨#[]⟩, .string ⟨#[]⟩] 25)).heap.size := rs.lt
 have hnr : (rl d).length = R6.nR d := WI.rl_len d
 obtain ⟨n, hn⟩ : ∃ n, (rl d).length = n := ⟨_, rfl⟩
 rw [hn] at hnr
 rw [hn]
 have hn13 : n ≤ 13 := by rw [← hn]; exact WI.rl_small d
 have HN : Hid ((rl d).length = n) := hn
 clear dv m0 m1 lb m2 e1 e2 hR hF hn
 go_enter Tryz.func102, Tryz.ntmps102
 go_wp2_with (go_at_call 180; refine (hrg.out _ L3).mono ?_; rintro e w4 ⟨a4, c4', rfl, hq4, hc4, o4, b4⟩; have M4 := M3.trans (b4.mono M3.size); have dv4 := dv3.below b4; have rs4 := rs.below b4; have r4 := WI.row_of o4)
 rw [← hnr] at *
 clear c0 c1 c2 c3 c4 c5 c6 c7 dv3 lb3 rs M3 L3 b4 o4 hrg hq4 hc4
 have hlt4 : w.heap.size + 3 ≤ ((((w.alloc (.cells #[.string a, .string b] 25)).alloc (.cells #[.int .i64 d.ino, .int .i64 d.cl, .int .i64 d.un, .string d.rc, .slice s.a1 d.pg.length s.c1, .string d.sav, .slice s.a2 d.po.length s.c2, .slice s.a3 d.fr.length s.c3] 66)).alloc (.cells #[.string ⟨#[]⟩, .string ⟨#[]⟩] 25))).heap.size := hlt3
 have r4' : rl d = [] ∨ ∃ G, a4 = some ⟨G, 0, none⟩ ∧ w.heap.size + 3 ≤ G ∧ K0.Blk G (ints (R6.rg d)) w4 := r4.imp id fun ⟨G, h1, h2, h3⟩ => ⟨G, h1, Nat.le_trans hlt4 h2, h3⟩
 clear r4 hlt3 hlt4
 go_loopw [10] (fun i w' => ∃ k : Nat, k ≤ n ∧ i = .int .i64 k ∧ K0.Blk w.heap.size [.string a, .string (layN a b (rl d) k)] w' ∧ K0.Blk (w.heap.size + 2) [.string ⟨#[]⟩, .string ⟨#[]⟩] w' ∧ (rl d = [] ∨ ∃ G, a4 = some ⟨G, 0, none⟩ ∧ w.heap.size + 3 ≤ G ∧ K0.Blk G (ints (R6.rg d)) w') ∧ Below w.heap.size w w') (fun i _ => n - (intOf i).toNat)
 case atStart => exact ⟨0, Nat.zero_le _, rfl, dv4, rs4, r4', M4⟩
 case round =>
  obtain ⟨k, hk, rfl, dvk, rsk, rk, hbel⟩ := hrel
  clear dv4 rs4 r4' M4
  by_cases hlt : k < n
  ·obtain ⟨G, rfl, hG, kG⟩ : ∃ G, a4 = some ⟨G, 0, none⟩ ∧ w.heap.size + 3 ≤ G ∧ K0.Blk G (ints (R6.rg d)) wr := by
    rcases rk with h0 | h0
    ·rw [h0] at HN
     have := HN.out
     simp at this
     omega
    ·exact h0
   have hkl : k < (rl d).length := by have := HN.out; omega
   obtain ⟨y1, y2⟩ := WI.row_get kG hkl
   obtain ⟨i1, i2, i3⟩ := WI.at_in d hkl
   have hsz := layN_size a b (rl d) hb k
   have hu : layN a b (rl d) (k + 1) = lay a (layN a b (rl d) k) (at_ (rl d) k) := rfl
   obtain ⟨r, er⟩ : ∃ r, at_ (rl d) k = r := ⟨_, rfl⟩
   rw [er] at y1 y2 i1 i2 i3 hu
   obtain ⟨u, v⟩ := r
   simp only at y1 y2 i1 i2 i3
   obtain ⟨cur, ec⟩ : ∃ cur, layN a b (rl d) k = cur := ⟨_, rfl⟩
   rw [ec] at dvk hsz hu
   have HU : Hid (layN a b (rl d) (k + 1) = lay a cur (u, v)) := hu
   have hfl : Hid (∀ W, Calls Tryz.prog 181 #[.agg #[.string a, .string cur], .int .i64 u, .int .i64 v] W fun e w' => e = .returned (.agg #[.string a, .string (lay a cur (u, v))]) ∧ Below W.heap.size W w') := fun W => F1.impl_Flush_main a cur u v W ha hsz i1 (by omega) i3
   have x1 : (0 : Int) ≤ (k : Int) := by omega
   have x2 : (k : Int) < (n : Int) := by omega
   have nb := K0.below_new wr (.cells #[.int .i64 u, .int .i64 v] 141)
   have bx := K0.blk_new [.int .i64 u, .int .i64 v] wr 141
   have z0 := bx.c0
   have z1 := bx.c1
   have dvb := dvk.below nb
   have d0 := dvb.c0
   have d1 := dvb.c1
   have Mb := hbel.trans (nb.mono hbel.size)
   clear er ec hu rk hb
   go_wp2_with (go_at_call 181; refine (hfl.out _).mono ?_; rintro e w5 ⟨rfl, b5⟩; have dv5 := dvb.below b5; have rs5 := (rsk.below nb).below b5; have k5 := (kG.below nb).below b5; have M5 := Mb.trans (b5.mono Mb.size); have f0 := dv5.c0; have f1 := dv5.c1; have g0 := dv5.f0; have g1 := dv5.f1)
   have q5 := dv5.put2 (.string a) (.string (lay a cur (u, v)))
   have rs6 := (rs5.setOther (B' := w.heap.size) (by omega) 0 (.string a)).setOther (B' := w.heap.size) (by omega) 1 (.string (lay a cur (u, v)))
   have k6 := (k5.setOther (B' := w.heap.size) (by omega) 0 (.string a)).setOther (B' := w.heap.size) (by omega) 1 (.string (lay a cur (u, v)))
   have M6 := (M5.setCell (p := ⟨w.heap.size, 0, none⟩) (Nat.le_refl _) (.string a)).setCell (p := ⟨w.heap.size, 1, none⟩) (Nat.le_refl _) (.string (lay a cur (u, v)))
   go_roundw
   case rel => exact ⟨k + 1, by omega, by go_num, by rw [HU.out]; exact q5, rs6, Or.inr ⟨G, rfl, hG, k6⟩, M6⟩
   case measure => simp [intOf]; omega
  ·obtain rfl : k = n := by omega
   have d0 := dvk.c0
   have d1 := dvk.c1
   have f0 := rsk.c0
   have f1 := rsk.c1
   have g0 := rsk.f0
   have g1 := rsk.f1
   have q := rsk.put2 (.string a) (.string (layN a b (rl d) k))
   have MF := (hbel.setCell (p := ⟨w.heap.size + 2, 0, none⟩) (Nat.le_add_right _ 2) (.string a)).setCell (p := ⟨w.heap.size + 2, 1, none⟩) (Nat.le_add_right _ 2) (.string (layN a b (rl d) k))
   clear rk
   go_wp2
   exact bodyPost_ret (v := .agg #[.string a, .string (layN a b (rl d) k)]) (by simp [results, Tryz.results102, go_sem, q.c0, q.c1]) rfl ⟨rfl, MF⟩
set_option maxHeartbeats 2000000 in
theorem restLasts (k : Kp) (a : Option Addr) (c : Nat) (ss : Nat → Sl) (w : World) (h1 : k.mem.size = 768) (h2 : k.dur.size = 768) (hn : k.ds.length ≤ 1048576) (hF : Z4.Fits k.ds ss) (hR : Lns w a k.ds ss) :
  Calls Tryz.prog 61 #[kval k a c] w fun e w' => e = .returned (.bool (k.mem.toList == (layS k.mem k.dur k.ds k.ds.length).toList)) ∧ Below w.heap.size w w' := by
 have x0 := Z4.bk_new w k a c
 have m1 := K0.below_new (w.alloc (.cells #[.string k.mem, .string k.dur, .slice a k.ds.length c, .int .i64 k.ck] 28)) (.cells #[.string k.mem, .string k.dur] 25)
 have e1 : (w.alloc (.cells #[.string k.mem, .string k.dur, .slice a k.ds.length c, .int .i64 k.ck] 28)).heap.size = w.heap.size + 1 := by simp
 have dv := K0.blk_new [.string k.mem, .string k.dur] (w.alloc (.cells #[.string k.mem, .string k.dur, .slice a k.ds.length c, .int .i64 k.ck] 28)) 25
 have M1 := x0.bel.trans (m1.mono x0.bel.size)
 have kb1 := x0.arg.below m1
 rw [e1] at dv
 have c0 := kb1.c0
 have c1 := kb1.c1
 have c2 := kb1.c2
 have HL : Hid (∀ W, Below w.heap.size w W → Lns W a k.ds ss) := fun W hb => hR.below hb
 have HF : Hid (Z4.Fits k.ds ss) := hF
 clear x0 m1 e1 hR hF
 go_enter Tryz.func61, Tryz.ntmps61
 go_wp2
 go_loopw [11] (fun i w' => ∃ j : Nat, j ≤ k.ds.length ∧ i = .int .i64 j ∧ K0.Blk (w.heap.size + 1) [.string k.mem, .string (layS k.mem k.dur k.ds j)] w' ∧ Below w.heap.size w w') (fun i _ => k.ds.length - (intOf i).toNat)
 case atStart => exact ⟨0, Nat.zero_le _, rfl, dv, M1⟩
 case round =>
  obtain ⟨j, hj, rfl, dvk, hbel⟩ := hrel
  clear dv M1 kb1 c0 c1 c2
  by_cases hlt : j < k.ds.length
  ·have ls := (HL.out _ hbel).sub j hlt
   obtain ⟨hf, hpo, hfr⟩ := HF.out j hlt
   obtain ⟨b, off, hab, hlt0, hc⟩ := (HL.out _ hbel).row.get hlt
   subst hab
   obtain ⟨y0, y1, y2, y3, y4, y5, y6, y7⟩ := hc j hlt
   have hsz := layS_size k.mem k.dur k.ds h2 j
   have hu : layS k.mem k.dur k.ds (j + 1) = layN k.mem (layS k.mem k.dur k.ds j) (rl (dat k.ds j)) (rl (dat k.ds j)).length := rfl
   obtain ⟨d, ed⟩ : ∃ d, dat k.ds j = d := ⟨_, rfl⟩
   obtain ⟨s, es⟩ : ∃ s, ss j = s := ⟨_, rfl⟩
   rw [ed, es] at ls hf
   rw [ed] at y0 y1 y2 y3 y4 y5 y6 y7 hpo hfr hu
   rw [es] at y4 y6 y7
   obtain ⟨cur, ec⟩ : ∃ cur, layS k.mem k.dur k.ds j = cur := ⟨_, rfl⟩
   rw [ec] at dvk hsz hu
   have HU : Hid (layS k.mem k.dur k.ds (j + 1) = layN k.mem cur (rl d) (rl d).length) := hu
   have hrl : Hid (∀ W, Below wr.heap.size wr W → Calls Tryz.prog 102 #[.agg #[.string k.mem, .string cur], N1.val d s] W fun e w' => e = .returned (.agg #[.string k.mem, .string (layN k.mem cur (rl d) (rl d).length)]) ∧ Below W.heap.size W w') := fun W hb => rangesLast k.mem cur d s W h1 hsz hf hpo hfr (ls.below hb)
   obtain ⟨nxt, en⟩ : ∃ nxt, layN k.mem cur (rl d) (rl d).length = nxt := ⟨_, rfl⟩
   rw [en] at hrl HU
   have x1 : (0 : Int) ≤ (j : Int) := by omega
   have x2 : (j : Int) < (k.ds.length : Int) := by omega
   have nb := K0.below_new wr (.cells #[.int .i64 d.ino, .int .i64 d.cl, .int .i64 d.un, .string d.rc, .slice s.a1 d.pg.length s.c1, .string d.sav, .slice s.a2 d.po.length s.c2, .slice s.a3 d.fr.length s.c3] 66)
   have dvb := dvk.below nb
   have d0 := dvb.c0
   have d1 := dvb.c1
   have Mb := hbel.trans (nb.mono hbel.size)
   clear ed es ec en hu hc ls hf
   go_wp2_with (go_at_call 102; refine (hrl.out _ nb).mono ?_; rintro e w5 ⟨rfl, b5⟩; have dv5 := dvb.below b5; have M5 := Mb.trans (b5.mono Mb.size); have f0 := dv5.c0; have f1 := dv5.c1; have g0 := dv5.f0; have g1 := dv5.f1)
   have q5 := dv5.put2 (.string k.mem) (.string nxt)
   have M6 := (M5.setCell (p := ⟨w.heap.size + 1, 0, none⟩) (Nat.le_succ _) (.string k.mem)).setCell (p := ⟨w.heap.size + 1, 1, none⟩) (Nat.le_succ _) (.string nxt)
   go_roundw
   case rel => exact ⟨j + 1, by omega, by go_num, by rw [HU.out]; exact q5, M6⟩
   case measure => simp [intOf]; omega
  ·obtain rfl : j = k.ds.length := by omega
   have d0 := dvk.c0
   have d1 := dvk.c1
   clear HL HF
   go_wp2
   go_ret
   exact ⟨rfl, hbel⟩
end Go.Proofs.YtljnkicgahepfaaGreatDoor.KQ
namespace Go.Proofs.YtljnkicgahepfaaGreatDoor.KT
open Go.ChangeShapes Go.WideShapes Go.ChangeAt Go.RowKit
open N0 (Ln)
open N1 (Sl Lists Fit)
open HP (Rg at_)
open WI (rl)
open Z0 (dat Kp Lns kval)
open Z4 (Bk bk_new)
open I2 (ints)
open N13 (laid_size)
def outN (a : ByteArray) (rs : List Rg) : Nat → ByteArray
 | 0 => a
 | k + 1 => B5.laid (outN a rs k) (at_ rs k).1 (B4.zeros (at_ rs k).2)
def outS (a : ByteArray) (ds : List Ln) : Nat → ByteArray
 | 0 => a
 | k + 1 => outN (outS a ds k) (rl (dat ds k)) (rl (dat ds k)).length
theorem outN_size (a : ByteArray) (rs : List Rg) : ∀ k, (outN a rs k).size = a.size
 | 0 => rfl
 | k + 1 => by rw [outN, laid_size, outN_size a rs k]
theorem outS_size (a : ByteArray) (ds : List Ln) : ∀ k, (outS a ds k).size = a.size
 | 0 => rfl
 | k + 1 => by rw [outS, outN_size, outS_size a ds k]
theorem zeros_small (v : Int) : (B4.zeros v).size ≤ 281474976710656 := by
 unfold B4.zeros
 split
 ·rename_i h
  rw [B4.nulls_size]
  omega
 ·exact Nat.zero_le _
set_option maxHeartbeats 4000000 in
theorem l06Outside (k : Kp) (a : Option Addr) (c : Nat) (ss : Nat → Sl) (w : World) (hm1 : k.mem.size ≤ 281474976710656) (hm2 : k.dur.size ≤ 281474976710656) (hn : k.ds.length ≤ 1048576) (hF : Z4.Fits k.ds ss) (hR : Lns w a k.ds ss) :
  Calls Tryz.prog 49 #[kval k a c] w fun e w' => e = .returned (.bool ((outS k.mem k.ds k.ds.length).toList == (outS k.dur k.ds k.ds.length).toList)) ∧ Below w.heap.size w w' := by
 have x0 := bk_new w k a c
 have HL : Hid (∀ W, Below w.heap.size w W → Lns W a k.ds ss) := fun W hb => hR.below hb
 have HF : Hid (Z4.Fits k.ds ss) := hF
 have x1 : Bk w k a c (w.alloc (.cells #[.string k.mem, .string k.dur, .slice a k.ds.length c, .int .i64 k.ck] 28)).drew := x0.below ((Below.refl _ _).drew)
 have c0 := x0.arg.c0
 have c1 := x0.arg.c1
 clear hR hF
 go_enter Tryz.func49, Tryz.ntmps49
 go_wp2
 go_quiet (fail)
 have x2 := x0.below (K0.below_drewN (Below.refl _ _) nq)
 clear c0 c1 x1 x0
 go_wp2
 go_loopw [3, 4, 5] (fun p q i w' => ∃ j : Nat, j ≤ k.ds.length ∧ i = .int .i64 j ∧ p = .string (outS k.mem k.ds j) ∧ q = .string (outS k.dur k.ds j) ∧ Bk w k a c w') (fun _ _ i _ => k.ds.length - (intOf i).toNat)
 case atStart => exact ⟨0, Nat.zero_le _, rfl, rfl, rfl, x2⟩
 case round =>
  obtain ⟨j, hj, rfl, rfl, rfl, xr⟩ := hrel
  clear x2
  have c2 := xr.arg.c2
  by_cases hlt : j < k.ds.length
  ·have ls := (HL.out _ xr.bel).sub j hlt
   obtain ⟨hf, hpo, hfr⟩ := HF.out j hlt
   obtain ⟨b, off, hab, hlt0, hc⟩ := (HL.out _ xr.bel).row.get hlt
   obtain ⟨y0, y1, y2, y3, y4, y5, y6, y7⟩ := hc j hlt
   have s1 := outS_size k.mem k.ds j
   have s2 := outS_size k.dur k.ds j
   have hs1 : outS k.mem k.ds (j + 1) = outN (outS k.mem k.ds j) (rl (dat k.ds j)) (rl (dat k.ds j)).length := rfl
   have hs2 : outS k.dur k.ds (j + 1) = outN (outS k.dur k.ds j) (rl (dat k.ds j)) (rl (dat k.ds j)).length := rfl
   obtain ⟨d, ed⟩ : ∃ d, dat k.ds j = d := ⟨_, rfl⟩
   obtain ⟨s, es⟩ : ∃ s, ss j = s := ⟨_, rfl⟩
   rw [ed, es] at ls hf
   rw [ed] at y0 y1 y2 y3 y4 y5 y6 y7 hs1 hs2 hpo hfr
   rw [es] at y4 y6 y7
   rw [hab] at c2
   obtain ⟨A, eA⟩ : ∃ A, outS k.mem k.ds j = A := ⟨_, rfl⟩
   obtain ⟨B, eB⟩ : ∃ B, outS k.dur k.ds j = B := ⟨_, rfl⟩
   rw [eA] at hs1 s1
   rw [eB] at hs2 s2
   rw [eA, eB]
   have HS1 : Hid (outS k.mem k.ds (j + 1) = outN A (rl d) (rl d).length) := hs1
   have HS2 : Hid (outS k.dur k.ds (j + 1) = outN B (rl d) (rl d).length) := hs2
   have e1 : (0 : Int) ≤ (j : Int) := by omega
   have e2 : (j : Int) < (k.ds.length : Int) := by omega
   have HRg : Hid (Calls Tryz.prog 112 #[N1.val d s] wr (R6.Ans d wr)) := R6.spec_Ranges d s wr hf hpo hfr ls
   have hnr : (rl d).length = R6.nR d := WI.rl_len d
   obtain ⟨n, hnn⟩ : ∃ n, (rl d).length = n := ⟨_, rfl⟩
   rw [hnn] at hnr
   have hn13 : n ≤ 13 := by rw [← hnn]; exact WI.rl_small d
   have HN : Hid ((rl d).length = n) := hnn
   clear hab ed es hc ls hf eA eB hs1 hs2 hnn
   go_wp2_with (go_at_call 112; refine HRg.out.mono ?_; rintro e w4 ⟨a4, c4', rfl, hq4, hc4, o4, b4⟩; have x4 := xr.below b4; have r4 := WI.row_of o4)
   rw [← hnr] at *
   have r4' : rl d = [] ∨ ∃ G, a4 = some ⟨G, 0, none⟩ ∧ K0.Blk G (ints (R6.rg d)) w4 := r4.imp id fun ⟨G, h1, h2, h3⟩ => ⟨G, h1, h3⟩
   clear r4 hq4 hc4 o4 b4 HRg y0 y1 y2 y3 y4 y5 y6 y7 c2 xr
   go_loopw [3, 4, 7] (fun p q i w' => ∃ t : Nat, t ≤ n ∧ i = .int .i64 t ∧ p = .string (outN A (rl d) t) ∧ q = .string (outN B (rl d) t) ∧ Bk w k a c w' ∧ (rl d = [] ∨ ∃ G, a4 = some ⟨G, 0, none⟩ ∧ K0.Blk G (ints (R6.rg d)) w')) (fun _ _ i _ => n - (intOf i).toNat)
   case atStart => exact ⟨0, Nat.zero_le _, rfl, rfl, rfl, x4, r4'⟩
   case round =>
    obtain ⟨t, ht, rfl, rfl, rfl, xq, rk⟩ := hrel
    clear x4 r4'
    by_cases hlt2 : t < n
    ·obtain ⟨G, rfl, kG⟩ : ∃ G, a4 = some ⟨G, 0, none⟩ ∧ K0.Blk G (ints (R6.rg d)) wr := by
      rcases rk with h0 | h0
      ·rw [h0] at HN
       have := HN.out
       simp at this
       omega
      ·exact h0
     have hkl : t < (rl d).length := by have := HN.out; omega
     obtain ⟨y1, y2⟩ := WI.row_get kG hkl
     have z1 := outN_size A (rl d) t
     have z2 := outN_size B (rl d) t
     have h1 : outN A (rl d) (t + 1) = B5.laid (outN A (rl d) t) (at_ (rl d) t).1 (B4.zeros (at_ (rl d) t).2) := rfl
     have h2 : outN B (rl d) (t + 1) = B5.laid (outN B (rl d) t) (at_ (rl d) t).1 (B4.zeros (at_ (rl d) t).2) := rfl
     obtain ⟨r, er⟩ : ∃ r, at_ (rl d) t = r := ⟨_, rfl⟩
     rw [er] at y1 y2 h1 h2
     obtain ⟨u, v⟩ := r
     simp only at y1 y2 h1 h2
     obtain ⟨A', eA⟩ : ∃ A', outN A (rl d) t = A' := ⟨_, rfl⟩
     obtain ⟨B', eB⟩ : ∃ B', outN B (rl d) t = B' := ⟨_, rfl⟩
     rw [eA] at h1 z1
     rw [eB] at h2 z2
     rw [eA, eB]
     have H1 : Hid (outN A (rl d) (t + 1) = B5.laid A' u (B4.zeros v)) := h1
     have H2 : Hid (outN B (rl d) (t + 1) = B5.laid B' u (B4.zeros v)) := h2
     have hwa : Hid (∀ W, Calls Tryz.prog 97 #[.string A', .int .i64 u, .string (B4.zeros v)] W fun e w' => e = .returned (.string (B5.laid A' u (B4.zeros v))) ∧ ∃ n, w' = W.drewN n) := fun W => B5.spec_With _ _ _ _ (by omega) (zeros_small v)
     have hwb : Hid (∀ W, Calls Tryz.prog 97 #[.string B', .int .i64 u, .string (B4.zeros v)] W fun e w' => e = .returned (.string (B5.laid B' u (B4.zeros v))) ∧ ∃ n, w' = W.drewN n) := fun W => B5.spec_With _ _ _ _ (by omega) (zeros_small v)
     have q1 : (0 : Int) ≤ (t : Int) := by omega
     have q2 : (t : Int) < (n : Int) := by omega
     clear eA eB h1 h2 rk
     go_wp2
     go_quiet ((first
      | (go_at_call 111; exact Calls.quiet_of_same (B4.spec_Zeros _ _))
      | (go_at_call 97; exact Calls.quiet_of (hwa.out _))))
     have xs := xq.below (K0.below_drewN (Below.refl _ _) nq)
     have kH := kG.drewN nq
     obtain ⟨w5, hw5⟩ : ∃ w5, wr.drewN nq = w5 := ⟨_, rfl⟩
     rw [hw5] at xs kH ⊢
     obtain ⟨y1', y2'⟩ := WI.row_get kH hkl
     rw [er] at y1' y2'
     simp only at y1' y2'
     clear hw5 er
     go_wp2
     go_quiet ((first
      | (go_at_call 111; exact Calls.quiet_of_same (B4.spec_Zeros _ _))
      | (go_at_call 97; exact Calls.quiet_of (hwb.out _))))
     have xs2 := xs.below (K0.below_drewN (Below.refl _ _) nq)
     have kH2 := kH.drewN nq
     go_wp2
     go_roundw
     case rel => exact ⟨t + 1, by omega, by go_num, by rw [H1.out], by rw [H2.out], xs2, Or.inr ⟨G, rfl, kH2⟩⟩
     case measure => simp [intOf]; omega
    ·obtain rfl : t = n := by omega
     have e9 : decide ((t : Int) < (t : Int)) = false := by simp
     have HN2 := HN.out
     go_wp2
     go_roundw
     case rel => exact ⟨j + 1, by omega, by go_num, by rw [HS1.out, HN2], by rw [HS2.out, HN2], xq⟩
     case measure => simp [intOf]; omega
  ·obtain rfl : j = k.ds.length := by omega
   have e9 : decide ((k.ds.length : Int) < (k.ds.length : Int)) = false := by simp
   clear HL HF
   go_wp2
   go_ret
   exact ⟨rfl, xr.bel⟩
end Go.Proofs.YtljnkicgahepfaaGreatDoor.KT
