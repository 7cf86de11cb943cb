/- Joined texts: plain facts and contracts. -/
import Derived.Test.YtljnkicgahepfaaGreatDoorJlZN
import Derived.LaidEql
import Derived.Stop.Asserts
import Derived.RowKitTokens
import Derived.Test.YtljnkicgahepfaaGreatDoorJlZE
import Derived.Test.YtljnkicgahepfaaGreatDoorJlC
import Derived.Deep.RegionHeld3
import Derived.Test.YtljnkicgahepfaaGreatDoorJlF
import Derived.Test.YtljnkicgahepfaaGreatDoorJlZG
import Derived.Test.YtljnkicgahepfaaGreatDoorJlZH
set_option linter.unusedVariables false
set_option linter.unusedSimpArgs false
set_option maxRecDepth 10000
namespace Go.Proofs.YtljnkicgahepfaaGreatDoor.WO
open Go.ChangeShapes Go.WideShapes Go.ChangeAt Go.RowKit
open Go.Extern.Stop Go.Stop Go.Extern
open WN (er ref)
theorem tOf (v : Value) (w : World) : (callFunc 266 #[.iface 353 v]).run Tryz.prog w = .ok (.value (.iface 324 (.agg #[.pointer (some ⟨10, 353, none⟩)]))) w := by kernel_rfl
theorem tCmp (w : World) : (callFunc 362 #[.agg #[.pointer (some ⟨10, 353, none⟩)]]).run Tryz.prog w = .ok (.value (.bool true)) w := by kernel_rfl
theorem mCmp (v : Value) (w : World) : (Go.method 486 324 v "Comparable").run Tryz.prog w = .ok (362, v) w := by kernel_rfl
theorem cmpE : (Tryz.prog.info? 353).map (·.comparable) = some true := by kernel_rfl
theorem szE : (Tryz.prog.info? 375).map (·.size) = some 1 := by kernel_rfl
theorem noIs (v : Value) (xT : TypeId) (w : World) : (Instr.typeAssert (.iface 353 v) xT 326 true).run Tryz.prog w = .ok (.tuple #[.nilIface, .bool false]) w := run_typeAssert_lacksB Tryz.underlying326 (by kernel_rfl) (by kernel_rfl) v xT w
theorem noUn (v : Value) (xT : TypeId) (w : World) : (Instr.typeAssert (.iface 353 v) xT 329 true).run Tryz.prog w = .ok (.tuple #[.nilIface, .bool false]) w := run_typeAssert_lacksB Tryz.underlying329 (by kernel_rfl) (by kernel_rfl) v xT w
theorem noUns (v : Value) (xT : TypeId) (w : World) : (Instr.typeAssert (.iface 353 v) xT 331 true).run Tryz.prog w = .ok (.tuple #[.nilIface, .bool false]) w := run_typeAssert_lacksB Tryz.underlying331 (by kernel_rfl) (by kernel_rfl) v xT w
theorem noIsR (v : Value) (xT : TypeId) (w : World) : (Instr.typeAssert (.iface 174 v) xT 326 true).run Tryz.prog w = .ok (.tuple #[.nilIface, .bool false]) w := run_typeAssert_lacksB Tryz.underlying326 (by kernel_rfl) (by kernel_rfl) v xT w
theorem hasUnR (v : Value) (xT : TypeId) (w : World) : (Instr.typeAssert (.iface 174 v) xT 329 true).run Tryz.prog w = .ok (.tuple #[.iface 174 v, .bool true]) w := run_typeAssert_hasB Tryz.underlying329 (by kernel_rfl) v xT w
theorem mUn (v : Value) (w : World) : (Go.method 486 174 v "Unwrap").run Tryz.prog w = .ok (348, v) w := by kernel_rfl
theorem unwrap (p : Addr) (w : World) : Calls Tryz.prog 348 #[.agg #[er p]] w fun e w' => e = .returned (er p) ∧ Below w.heap.size w w' := by
 have n0 := K0.below_new w (.cells #[er p] 174)
 go_enter Tryz.func348, Tryz.ntmps348
 go_wp2
 go_ret
 exact ⟨rfl, n0⟩
def Lies (p : Addr) (w : World) : Prop := ∃ cs t, w.heap[p.block]? = some (.cells cs t (0, 0))
theorem Lies.below {p : Addr} {w W : World} (h : Lies p w) (hb : Below w.heap.size w W) : Lies p W := by
 obtain ⟨cs, t, h⟩ := h
 exact ⟨cs, t, by rw [hb.block _ (Array.getElem?_eq_some_iff.1 h).1]; exact h⟩
set_option maxHeartbeats 4000000 in
theorem is_not (a b : Addr) (w : World) (hne : a ≠ b) (ha : Lies a w) (hb : Lies b w) :
  Calls Tryz.prog 211 #[ref a, er b] w fun e w' => e = .returned (.bool false) ∧ Below w.heap.size w w' := by
 obtain ⟨i, hi, hcmp⟩ := Option.map_eq_some_iff.1 cmpE
 obtain ⟨j, hj, hjs⟩ := Option.map_eq_some_iff.1 szE
 have tT := tOf
 have cT := tCmp
 have mR := mCmp
 have nE := noIs
 have uE := noUn
 have vE := noUns
 have nW := noIsR
 have uW := hasUnR
 have mU := mUn
 have hty := run_eql_iface_types (P := Tryz.prog) 174 353 (.agg #[er a]) (.pointer (some b)) Tryz.underlying61 (by decide) w
 go_enter Tryz.func211, Tryz.ntmps211
 go_wp2
 refine wp_loop_rounds 2 ?_
 rw [rounds_succ]
 go_wp2_with (go_at_call 348; refine (unwrap a _).mono ?_; rintro e w1 ⟨rfl, b1⟩; obtain ⟨ca, ta, ha1⟩ := ha.below b1; obtain ⟨cb, tb, hb1⟩ := hb.below b1; have heq := run_eql_iface_ptr_other (P := Tryz.prog) w1 Tryz.underlying61 Tryz.underlying353 hi hcmp hj (by rw [hjs]; decide) hne ha1 hb1)
 rw [rounds_succ]
 go_wp2
 go_ret
 exact ⟨rfl, b1⟩
set_option maxHeartbeats 4000000 in
theorem is_yes (b : Addr) (w : World) :
  Calls Tryz.prog 211 #[ref b, er b] w fun e w' => e = .returned (.bool true) ∧ Below w.heap.size w w' := by
 obtain ⟨i, hi, hcmp⟩ := Option.map_eq_some_iff.1 cmpE
 obtain ⟨j, hj, hjs⟩ := Option.map_eq_some_iff.1 szE
 have tT := tOf
 have cT := tCmp
 have mR := mCmp
 have nE := noIs
 have uE := noUn
 have vE := noUns
 have nW := noIsR
 have uW := hasUnR
 have mU := mUn
 have hty := run_eql_iface_types (P := Tryz.prog) 174 353 (.agg #[er b]) (.pointer (some b)) Tryz.underlying61 (by decide) w
 go_enter Tryz.func211, Tryz.ntmps211
 go_wp2
 refine wp_loop_rounds 2 ?_
 rw [rounds_succ]
 go_wp2_with (go_at_call 348; refine (unwrap b _).mono ?_; rintro e w1 ⟨rfl, b1⟩; have heq := run_eql_iface_ptr_same (P := Tryz.prog) w1 b Tryz.underlying61 Tryz.underlying353 hi hcmp hj)
 rw [rounds_succ]
 go_wp2
 go_ret
 exact ⟨rfl, b1⟩
structure Errs (pN pD pB pF : Addr) (w : World) : Prop where
 gN : w.cell? ⟨2, 0, none⟩ = some (er pN)
 gD : w.cell? ⟨3, 0, none⟩ = some (er pD)
 gB : w.cell? ⟨4, 0, none⟩ = some (er pB)
 gF : w.cell? ⟨0, 0, none⟩ = some (er pF)
 lN : Lies pN w
 lD : Lies pD w
 lB : Lies pB w
 lF : Lies pF w
 sz : 4 < w.heap.size
theorem Errs.below {pN pD pB pF : Addr} {w W : World} (h : Errs pN pD pB pF w) (hb : Below w.heap.size w W) : Errs pN pD pB pF W := by
 have hs := h.sz
 exact ⟨(hb.cell (p := ⟨2, 0, none⟩) (by show 2 < _; omega)).trans h.gN, (hb.cell (p := ⟨3, 0, none⟩) (by show 3 < _; omega)).trans h.gD, (hb.cell (p := ⟨4, 0, none⟩) (by show 4 < _; omega)).trans h.gB, (hb.cell (p := ⟨0, 0, none⟩) (by show 0 < _; omega)).trans h.gF,
  h.lN.below hb, h.lD.below hb, h.lB.below hb, h.lF.below hb, Nat.lt_of_lt_of_le hs hb.size⟩
set_option maxHeartbeats 4000000 in
theorem codeOf_fault (pN pD pB pF : Addr) (w : World) (h : Errs pN pD pB pF w) (n1 : pF ≠ pN) (n2 : pF ≠ pD) (n3 : pF ≠ pB) :
  Calls Tryz.prog 151 #[ref pF] w fun e w' => e = .returned (.int .i64 4) ∧ Below w.heap.size w w' := by
 have c1 := h.gN
 have HE : Hid (∀ W, Below w.heap.size w W → Errs pN pD pB pF W) := fun W hb => h.below hb
 have H1 := is_not pF pN w n1 h.lF h.lN
 go_enter Tryz.func151, Tryz.ntmps151
 go_wp2_with (first
  | (go_at_call 211; have l3' := l3; refine (is_yes pF _).mono ?_; rintro e w4 ⟨rfl, b4⟩)
  | (go_at_call 211; have l2' := l2; refine (is_not pF pB _ n3 e2.lF e2.lB).mono ?_; rintro e w3 ⟨rfl, b3⟩; have l3 := l2.trans (b3.mono l2.size); have e3 := HE.out _ l3; have c4 := e3.gF)
  | (go_at_call 211; have l1' := l1; refine (is_not pF pD _ n2 e1.lF e1.lD).mono ?_; rintro e w2 ⟨rfl, b2⟩; have l2 := l1.trans (b2.mono l1.size); have e2 := HE.out _ l2; have c3 := e2.gB)
  | (go_at_call 211; refine H1.mono ?_; rintro e w1 ⟨rfl, l1⟩; have e1 := HE.out _ l1; have c2 := e1.gD))
 go_ret
 exact ⟨rfl, l3.trans (b4.mono l3.size)⟩
end Go.Proofs.YtljnkicgahepfaaGreatDoor.WO
namespace Go.Proofs.YtljnkicgahepfaaGreatDoor.Y1
open Go.ChangeShapes Go.WideShapes Go.ChangeAt Go.RowKit Go.Shelf
open X0 (row mix)
open F0 (Has)
open I2 (ints)
theorem ibuf_own {base n cap : Nat} {a : Option Addr} {W V : World} {zs : List Int} {row : Option Nat} (h : J0.IBuf base W a n cap zs) (hg : W.grownBy V row) (hr : ∀ r, row = some r → ∃ o : Obj, W.heap[r]? = some o ∧ o.isCells = false) : J0.IBuf base V a n cap zs := by
 refine ⟨h.1, h.2.1, ?_⟩
 rcases h.2.2 with h0 | ⟨g, c, cur, hv, hbase, hc, hrest⟩
 ·exact Or.inl h0
 ·refine Or.inr ⟨g, c, cur, hv, hbase, ?_, hrest⟩
  rw [hg.block g (Array.getElem?_eq_some_iff.1 hc).1 (fun e => ?_)]
  ·exact hc
  ·obtain ⟨o, ho, hno⟩ := hr g e.symm
   rw [hc] at ho
   cases ho
   simp [Obj.isCells] at hno
theorem ibuf_block {base n cap : Nat} {a : Option Addr} {W V : World} {zs : List Int} (h : J0.IBuf base W a n cap zs) (hk : ∀ g, (Value.slice a n cap).ownBlock = some g → V.heap[g]? = W.heap[g]?) : J0.IBuf base V a n cap zs := by
 refine ⟨h.1, h.2.1, ?_⟩
 rcases h.2.2 with h0 | ⟨g, c, cur, hv, hbase, hc, hrest⟩
 ·exact Or.inl h0
 ·refine Or.inr ⟨g, c, cur, hv, hbase, ?_, hrest⟩
  rw [hk g (by rw [hv]; rfl)]
  exact hc
structure Dr (w : World) (G f : Nat) (la lb : List UInt8) (zs : List Int) (W : World) : Prop where
 dl : A3.Dl G la lb W
 lst : ∃ p n c, Has f 0 (.slice p n c) W ∧ J0.IBuf w.heap.size W p n c zs ∧ ∀ g, (Value.slice p n c).ownBlock = some g → g ≠ G ∧ g ≠ f
 fg : f ≠ G ∧ w.heap.size ≤ f
 bel : Below w.heap.size w W
variable {w W V : World} {G f : Nat} {la lb : List UInt8} {zs : List Int}
theorem Dr.own {row : Option Nat} {B : Nat} (h : Dr w G f la lb zs W) (hB : w.heap.size ≤ B) (hg : W.grownBy V row) (hr : ∀ r, row = some r → B ≤ r ∧ ∃ o : Obj, W.heap[r]? = some o ∧ o.isCells = false) : Dr w G f la lb zs V := by
 obtain ⟨p, n, c, h1, h2, h3⟩ := h.lst
 exact ⟨F0.dl_own h.dl hg fun r e => (hr r e).2, ⟨p, n, c, h1.own hg fun r e => (hr r e).2, ibuf_own h2 hg fun r e => (hr r e).2, h3⟩, h.fg, h.bel.grown hg h.bel.size fun r e => Nat.le_trans hB (hr r e).1⟩
theorem dl_block {V : World} (h : A3.Dl G la lb W) (hz : W.heap.size ≤ V.heap.size) (hb : V.heap[G]? = W.heap[G]?) : A3.Dl G la lb V :=
  ⟨fun j v hj => (World.cell?_of_block (a := ⟨G, 0 + j, none⟩) hb).trans (h.m j v hj), fun j v hj => (World.cell?_of_block (a := ⟨G, 768 + j, none⟩) hb).trans (h.d j v hj),
   fun j hj => ⟨by rw [World.cell?_of_block (a := ⟨G, _, none⟩) hb]; exact (h.t j hj).1, (World.frozen?_of_block (a := ⟨G, _, none⟩) hb).trans (h.t j hj).2⟩, Nat.lt_of_lt_of_le h.lt hz⟩
theorem Dr.step {p : Option Addr} {n c g' cap' : Nat} {z : Int} (h : Dr w G f la lb zs W) (hf : Has f 0 (.slice p n c) W) (hi : J0.IBuf w.heap.size W p n c zs) (hne : ∀ g, (Value.slice p n c).ownBlock = some g → g ≠ G ∧ g ≠ f)
  (hb : J0.IBuf w.heap.size V (some ⟨g', 0, none⟩) (n + 1) cap' (zs ++ [z])) (hg : (W.alloc (.cells #[.int .i64 z] 3)).grownBy V (Value.slice p n c).ownBlock) (hg' : (Value.slice p n c).ownBlock = some g' ∨ g' = W.heap.size + 1) :
  Dr w G f la lb (zs ++ [z]) (V.setCell ⟨f, 0, none⟩ (.slice (some ⟨g', 0, none⟩) (n + 1) cap')) ∧ ∀ B, KeepsFrom B W (V.setCell ⟨f, 0, none⟩ (.slice (some ⟨g', 0, none⟩) (n + 1) cap')) := by
 have hsz : W.heap.size + 1 ≤ V.heap.size := by have := hg.size; simpa using this
 have hlt := h.dl.lt
 have hfl := hf.2.2
 have ha : ∀ k, k < W.heap.size → (W.alloc (.cells #[.int .i64 z] 3)).heap[k]? = W.heap[k]? := fun k hk => Below.heap_alloc _ _ _ hk
 have hG : V.heap[G]? = W.heap[G]? := by
  rw [hg.block G (by simp; omega) (fun e => (hne G e.symm).1 rfl)]
  exact ha G hlt
 have hF : V.heap[f]? = W.heap[f]? := by
  rw [hg.block f (by simp; omega) (fun e => (hne f e.symm).2 rfl)]
  exact ha f hfl
 have hgn : g' ≠ G ∧ g' ≠ f := by
  rcases hg' with e | e
  ·exact hne g' e
  ·omega
 have hV : Has f 0 (.slice p n c) V := ⟨(World.cell?_of_block (a := ⟨f, 0, none⟩) hF).trans hf.1, (World.frozen?_of_block (a := ⟨f, 0, none⟩) hF).trans hf.2.1, by omega⟩
 have hbV : Below w.heap.size w V := F0.below_grown (h.bel.alloc h.bel.size _) hg (fun g e => by
  have := J0.own_block hi g e
  exact this) (by have := h.bel.size; simp; omega)
 refine ⟨⟨dl_block (dl_block h.dl (by omega) hG) (by simp) (Below.heap_setCell _ _ _ _ h.fg.1.symm), ⟨_, _, _, ⟨World.cell?_setCell_same _ _ _ hV.1, by rw [World.frozen?_setCell]; exact hV.2.1, by simpa using hV.2.2⟩, ibuf_block hb (fun g e => ?_), fun g e => ?_⟩, h.fg, hbV.setCell (p := ⟨f, 0, none⟩) h.fg.2 _⟩, fun B => ?_⟩
 ·cases e
  exact Below.heap_setCell _ _ _ _ hgn.2
 ·cases e
  exact hgn
 ·refine KeepsFrom.trans (KeepsFrom.trans ((KeepsOthers.alloc W _).from B) ((KeepsOthers.of_grownBy hg (fun j o e ho => ?_)).from B)) ((KeepsOthers.setCell _ _ _).from B)
  rcases hi.2.2 with ⟨h0, _⟩ | ⟨g, cc, cur, hv, hbase, hc, hrest⟩
  ·rw [h0] at e
   cases e
  ·rw [hv] at e
   cases e
   rw [ha g (Array.getElem?_eq_some_iff.1 hc).1, hc] at ho
   cases ho
   rfl
end Go.Proofs.YtljnkicgahepfaaGreatDoor.Y1
namespace Go.Proofs.YtljnkicgahepfaaGreatDoor.Y2
open Go.ChangeShapes Go.WideShapes Go.ChangeAt Go.RowKit Go.Shelf
open X0 (row mix)
open F0 (Has)
open I2 (ints)
attribute [local go_sem] Oper.semAt_some
end Go.Proofs.YtljnkicgahepfaaGreatDoor.Y2
namespace Go.Proofs.YtljnkicgahepfaaGreatDoor.W2
open Go.ChangeShapes Go.WideShapes Go.ChangeAt Go.RowKit Go.Shelf
open X0 (row mix)
open F0 (Has)
attribute [local go_sem] Oper.semAt_some
structure Fl (w : World) (G f1 f3 : Nat) (kv : Value) (la ld : List UInt8) (W : World) : Prop where
 dl : A3.Dl G la ld W
 c1 : Has f1 0 kv W
 c3 : Has f3 0 (.pointer (some ⟨G, 0, none⟩)) W
 r0 : Has (w.heap.size + 2) 0 (.string ⟨#[]⟩) W
 r1 : Has (w.heap.size + 2) 1 (.string ⟨#[]⟩) W
 bel : Below w.heap.size w W
variable {w W V : World} {G f1 f3 : Nat} {kv : Value} {la ld le : List UInt8}
theorem Fl.own {row : Option Nat} {B : Nat} (h : Fl w G f1 f3 kv la ld W) (hB : w.heap.size ≤ B) (hg : W.grownBy V row) (hr : ∀ r, row = some r → B ≤ r ∧ ∃ o : Obj, W.heap[r]? = some o ∧ o.isCells = false) : Fl w G f1 f3 kv la ld V :=
  ⟨F0.dl_own h.dl hg fun r e => (hr r e).2, h.c1.own hg fun r e => (hr r e).2, h.c3.own hg fun r e => (hr r e).2, h.r0.own hg fun r e => (hr r e).2, h.r1.own hg fun r e => (hr r e).2,
   h.bel.grown hg h.bel.size fun r e => Nat.le_trans hB (hr r e).1⟩
theorem Fl.set {k : Nat} (h : Fl w G f1 f3 kv la ld W) (hn : f1 ≠ G ∧ f3 ≠ G ∧ w.heap.size + 2 ≠ G ∧ w.heap.size ≤ G) (hla : la.length = 768) (hld : ld.length = 768) (hk : k < 96) (he : ld.take (k * 8) ++ row la k ++ ld.drop (k * 8 + 8) = le) :
  Fl w G f1 f3 kv la le (W.setCells G (768 + k * 8) (Lib.byteCells (row la k))) :=
 ⟨F0.dl_set h.dl hla hld hk he, h.c1.set hn.1 _, h.c3.set hn.2.1 _, h.r0.set hn.2.2.1 _, h.r1.set hn.2.2.1 _, B0.below_setCells hn.2.2.2 _ _ _ h.bel⟩
theorem Fl.drew (h : Fl w G f1 f3 kv la ld W) : Fl w G f1 f3 kv la ld W.drew := ⟨⟨h.dl.m, h.dl.d, h.dl.t, h.dl.lt⟩, h.c1, h.c3, h.r0, h.r1, h.bel.drew⟩
theorem Fl.below (h : Fl w G f1 f3 kv la ld W) (hb : Below W.heap.size W V) : Fl w G f1 f3 kv la ld V :=
 ⟨F0.dl_below h.dl hb, h.c1.below hb, h.c3.below hb, h.r0.below hb, h.r1.below hb, h.bel.trans (hb.mono h.bel.size)⟩
structure Fd (D : Nat) (w : World) (G f1 f3 : Nat) (kv : Value) (la ld : List UInt8) (W : World) : Prop where
 fl : Fl w G f1 f3 kv la ld W
 dk : W.heap[D]? = some (.deferred (some []))
theorem Fd.below {D : Nat} (h : Fd D w G f1 f3 kv la ld W) (hb : Below W.heap.size W V) : Fd D w G f1 f3 kv la ld V :=
 ⟨h.fl.below hb, (hb.block D (Array.getElem?_eq_some_iff.1 h.dk).1).trans h.dk⟩
theorem Fd.drew {D : Nat} (h : Fd D w G f1 f3 kv la ld W) : Fd D w G f1 f3 kv la ld W.drew := ⟨h.fl.drew, h.dk⟩
end Go.Proofs.YtljnkicgahepfaaGreatDoor.W2
namespace Go.Proofs.YtljnkicgahepfaaGreatDoor.PD
open Go.ChangeShapes Go.WideShapes Go.ChangeAt Go.RowKit
open N0 (Ln)
open N1 (Sl)
open Z0 (dat Row Lns Kp kval kvals)
open KD (KA Small kob zk)
open AQ (Bx bx_new co Sz)
set_option maxHeartbeats 2000000 in
theorem ask_not (k : Kp) (a : Option Addr) (c : Nat) (s0 : Nat → Sl) (q : Value) (w : World) (hz : Sz k) (hok : KI.iK k = false) (hR : Lns w a k.ds s0) :
  Calls Tryz.prog 79 #[kval k a c, q] w fun e w' => e = .returned (.tuple #[.agg #[.string ⟨#[]⟩, .string ⟨#[]⟩, .slice none 0 0, .int .i64 0], .int .i64 6]) ∧ Below w.heap.size w w' := by
 have t0 := bx_new w k a c
 have HL : Hid (∀ W, Below w.heap.size w W → Lns W a k.ds s0) := fun W hb => hR.below hb
 have hk0 := KI.impl_KeeperOk k a c s0 _ hz.m hz.d hz.t (hz.fits s0) (HL.out _ t0.bel)
 rw [hok] at hk0
 have c0 := t0.box.c0
 have c1 := t0.box.c1
 have c2 := t0.box.c2
 have c3 := t0.box.c3
 obtain ⟨W0, hW0⟩ : ∃ W0, ((w.alloc (kob k a c)).alloc zk).alloc co = W0 := ⟨_, rfl⟩
 rw [hW0] at t0 hk0 c0 c1 c2 c3
 clear hR hok HL
 go_enter_defers Tryz.func79, Tryz.ntmps79
 go_wp2_with (go_at_call 14; refine hk0.mono ?_; rintro e w1 ⟨rfl, b1⟩; have t1 := t0.below b1; have y0 := t1.ans.c0; have y1 := t1.ans.c1; have y2 := t1.ans.c2; have y3 := t1.ans.c3; have g0 := t1.ans.f0; have g1 := t1.ans.f1; have g2 := t1.ans.f2; have g3 := t1.ans.f3; have j0 := t1.code.c0; have jf := t1.code.f0)
 have n2 := (t1.ans.put4 (.string ⟨#[]⟩) (.string ⟨#[]⟩) (.slice none 0 0) (.int .i64 0)).setOther (B' := w.heap.size + 1 + 1) (by omega) 0 (.int .i64 6)
 have k2 := ((((t1.code.setOther (B' := w.heap.size + 1) (by omega) 0 (.string ⟨#[]⟩)).setOther (B' := w.heap.size + 1) (by omega) 1 (.string ⟨#[]⟩)).setOther (B' := w.heap.size + 1) (by omega) 2 (.slice none 0 0)).setOther (B' := w.heap.size + 1) (by omega) 3 (.int .i64 0)).set 0 (.int .i64 6)
 have l2 := ((((t1.bel.setCell (p := ⟨w.heap.size + 1, 0, none⟩) (Nat.le_succ _) (.string ⟨#[]⟩)).setCell (p := ⟨w.heap.size + 1, 1, none⟩) (Nat.le_succ _) (.string ⟨#[]⟩)).setCell (p := ⟨w.heap.size + 1, 2, none⟩) (Nat.le_succ _) (.slice none 0 0)).setCell (p := ⟨w.heap.size + 1, 3, none⟩) (Nat.le_succ _) (.int .i64 0)).setCell (p := ⟨w.heap.size + 1 + 1, 0, none⟩) (by show w.heap.size ≤ w.heap.size + 1 + 1; omega) (.int .i64 6)
 have v0 := n2.c0
 have v1 := n2.c1
 have v2 := n2.c2
 have v3 := n2.c3
 have v4 := k2.cell 0 (by simp)
 simp only [List.set_cons_zero, List.getElem_cons_zero] at v4
 obtain ⟨W2, hW2⟩ : ∃ W2, ((((w1.setCell ⟨w.heap.size + 1, 0, none⟩ (.string ⟨#[]⟩)).setCell ⟨w.heap.size + 1, 1, none⟩ (.string ⟨#[]⟩)).setCell ⟨w.heap.size + 1, 2, none⟩ (.slice none 0 0)).setCell ⟨w.heap.size + 1, 3, none⟩ (.int .i64 0)).setCell ⟨w.heap.size + 1 + 1, 0, none⟩ (.int .i64 6) = W2 := ⟨_, rfl⟩
 rw [hW2] at v0 v1 v2 v3 v4 l2 ⊢
 clear c0 c1 c2 c3 y0 y1 y2 y3 g0 g1 g2 g3 j0 jf hk0 n2 k2 hW2
 simp [bodyPostD, Leaves, settle, results, Tryz.results79, go_sem, v0, v1, v2, v3, v4]
 exact l2
structure B2 (w : World) (k : Kp) (a : Option Addr) (c : Nat) (W : World) : Prop where
 box : K0.Blk w.heap.size (kvals k a c) W
 ans : K0.Blk (w.heap.size + 1) Z3.zero4 W
 bel : Below w.heap.size w W
theorem B2.below {w W W' : World} {k : Kp} {a : Option Addr} {c : Nat} (h : B2 w k a c W) (hb : Below W.heap.size W W') : B2 w k a c W' := ⟨h.box.below hb, h.ans.below hb, h.bel.trans (hb.mono h.bel.size)⟩
end Go.Proofs.YtljnkicgahepfaaGreatDoor.PD
namespace Go.Proofs.YtljnkicgahepfaaGreatDoor.WP
open Go.ChangeShapes Go.WideShapes Go.ChangeAt Go.RowKit
open N0 (Ln)
open N1 (Sl val vals Lists)
open Z0 (dat Row Lns Kp kval kvals)
open Z4 (Fits)
open WL (lt1 lets)
open WM (Cap)
open WN (er ref chain wk)
structure Chg (B : Nat) (w w' : World) : Prop where
 os : w'.os = w.os
 tape : w'.tape = w.tape
 output : w'.output = w.output
 size : w.heap.size ≤ w'.heap.size
 block : ∀ k, k < w.heap.size → k ≠ B → w'.heap[k]? = w.heap[k]?
section
variable {B : Nat} {w W W' : World}
theorem Chg.refl (B : Nat) (w : World) : Chg B w w := ⟨rfl, rfl, rfl, Nat.le_refl _, fun _ _ _ => rfl⟩
theorem Chg.trans (h : Chg B w W) (k : Chg B W W') : Chg B w W' := ⟨k.os.trans h.os, k.tape.trans h.tape, k.output.trans h.output, Nat.le_trans h.size k.size, fun i hi hn => (k.block i (Nat.lt_of_lt_of_le hi h.size) hn).trans (h.block i hi hn)⟩
theorem Chg.ofBelow (h : Below w.heap.size w W) : Chg B w W := ⟨h.os, h.tape, h.output, h.size, fun k hk _ => h.block k hk⟩
theorem Chg.step {n : Nat} (h : Chg B w W) (hb : Below n W W') (hn : w.heap.size ≤ n) : Chg B w W' := ⟨hb.os.trans h.os, hb.tape.trans h.tape, hb.output.trans h.output, Nat.le_trans h.size hb.size, fun k hk hne => (hb.block k (by omega)).trans (h.block k hk hne)⟩
theorem Chg.set (h : Chg B w W) (j : Nat) (v : Value) : Chg B w (W.setCell ⟨B, j, none⟩ v) := ⟨h.os, h.tape, h.output, by simpa [World.setCell] using h.size, fun k hk hn => by
 have : (W.setCell ⟨B, j, none⟩ v).heap[k]? = W.heap[k]? := by
  unfold World.setCell
  simp [Array.getElem?_modify, Ne.symm hn]
 rw [this]; exact h.block k hk hn⟩
theorem Chg.below {n : Nat} (h : Chg B w W) (hn : n ≤ B) (hs : n ≤ w.heap.size) : Below n w W := ⟨h.os, h.tape, h.output, h.size, fun k hk => h.block k (by omega) (by omega)⟩
theorem blk_chg {B' : Nat} {vs : List Value} (h : K0.Blk B' vs w) (hb : Chg B w W) (hx : B' ≠ B) : K0.Blk B' vs W := by
 have e := hb.block B' h.lt hx
 refine ⟨fun j hj => ?_, fun j hj => ?_, Nat.lt_of_lt_of_le h.lt hb.size⟩
 ·rw [World.cell?_of_block (a := ⟨B', j, none⟩) e]
  exact h.cell j hj
 ·rw [World.frozen?_of_block (a := ⟨B', j, none⟩) e]
  exact h.free j hj
end
set_option maxHeartbeats 4000000 in
theorem quest_not (k : Kp) (P : Nat) (a : Option Addr) (c : Nat) (ss : Nat → Sl) (cl i n : Int) (bc bi bn bs : Nat) (p : Addr) (w : World) (hn : k.ds.length ≤ 1048576) (hF : Fits k.ds ss) (hR : Lns w a k.ds ss) (hP : K0.Blk P (wk k a c) w) (hC : Cap bc bi bn cl i n w) (hg : w.cell? ⟨0, 0, none⟩ = some (er p)) (hgl : 0 < w.heap.size) (hq : lets cl i n k.ds = false) :
  Calls Tryz.prog 80 #[.pointer (some ⟨P, 0, none⟩), .pointer (some ⟨bc, 0, none⟩), .pointer (some ⟨bi, 0, none⟩), .pointer (some ⟨bn, 0, none⟩), .pointer (some ⟨bs, 0, none⟩)] w fun e w' => e = .panicked (chain p) ∧ Below w.heap.size w w' := by
 have hx := WN.checkLent_not k P a c ss cl i n p w hn hF hR hP hg hgl hq
 have c1 := hC.c
 have c2 := hC.i
 have c3 := hC.n
 clear hR hF hP hC hg hgl hq
 go_enter Tryz.func80, Tryz.ntmps80
 go_wp2_with (go_at_call 81; refine hx.mono ?_; rintro e w1 ⟨rfl, b1⟩)
 exact ⟨rfl, rfl, b1⟩
set_option maxHeartbeats 4000000 in
theorem quest_yes (k : Kp) (P : Nat) (a : Option Addr) (c : Nat) (ss : Nat → Sl) (cl i n : Int) (bc bi bn bs : Nat) (x : Value) (p : Addr) (w : World) (hm : k.mem.size ≤ 1048576) (hn : k.ds.length ≤ 1048576) (hF : Fits k.ds ss) (hR : Lns w a k.ds ss) (hP : K0.Blk P (wk k a c) w) (hC : Cap bc bi bn cl i n w) (hS : K0.Blk bs [x] w) (hne : bs ≠ P ∧ bs ≠ bi ∧ bs ≠ bn) (hg : w.cell? ⟨0, 0, none⟩ = some (er p)) (hgl : 0 < w.heap.size) (hq : lets cl i n k.ds = true) :
  Calls Tryz.prog 80 #[.pointer (some ⟨P, 0, none⟩), .pointer (some ⟨bc, 0, none⟩), .pointer (some ⟨bi, 0, none⟩), .pointer (some ⟨bn, 0, none⟩), .pointer (some ⟨bs, 0, none⟩)] w fun e w' => e = .returned .nilIface ∧ K0.Blk bs [.string (B2.part k.mem i n)] w' ∧ Chg bs w w' := by
 have hx := WN.checkLent_yes k P a c ss cl i n p w hn hF hR hP hg hgl hq
 have c1 := hC.c
 have c2 := hC.i
 have c3 := hC.n
 have HB : Hid (∀ W, Below w.heap.size w W → (W.cell? ⟨P, 2, none⟩ = some (.string k.mem) ∧ W.cell? ⟨bi, 0, none⟩ = some (.int .i64 i) ∧ W.cell? ⟨bn, 0, none⟩ = some (.int .i64 n)) ∧ K0.Blk bs [x] W) := fun W hb => ⟨⟨by have := (hP.below hb).cell 2 (by simp); simpa using this, (hC.below hb).i, (hC.below hb).n⟩, hS.below hb⟩
 have HP : Hid (∀ W, Calls Tryz.prog 82 #[.string k.mem, .int .i64 i, .int .i64 n] W fun e w' => e = .returned (.string (B2.part k.mem i n)) ∧ Below W.heap.size W w') := fun W => B2.impl_Part k.mem i n W (by omega)
 generalize B2.part k.mem i n = Y at HP ⊢
 clear hR hF hP hC hg hgl hq hS
 go_enter Tryz.func80, Tryz.ntmps80
 go_wp2_with (go_at_call 81; refine hx.mono ?_; rintro e w1 ⟨rfl, b1⟩; have d1 : Below w.heap.size w w1.drew := b1.drew; obtain ⟨s1, k1⟩ := HB.out _ d1)
 go_region_held3 (fun W => W.cell? ⟨P, 2, none⟩ = some (.string k.mem) ∧ W.cell? ⟨bi, 0, none⟩ = some (.int .i64 i) ∧ W.cell? ⟨bn, 0, none⟩ = some (.int .i64 n)) (assumption) ((go_at_call 82; refine (HP.out _).mono ?_; rintro e w2 ⟨rfl, b2⟩; have d2 := d1.trans (b2.mono d1.size); obtain ⟨s2, k2⟩ := HB.out _ d2; have q0 := k2.cell 0 (by simp); have q1 := k2.free 0 (by simp); have s3 : (w2.setCell ⟨bs, 0, none⟩ (.string Y)).cell? ⟨P, 2, none⟩ = some (.string k.mem) ∧ (w2.setCell ⟨bs, 0, none⟩ (.string Y)).cell? ⟨bi, 0, none⟩ = some (.int .i64 i) ∧ (w2.setCell ⟨bs, 0, none⟩ (.string Y)).cell? ⟨bn, 0, none⟩ = some (.int .i64 n) := ⟨by rw [World.cell?_setCell_other _ _ _ _ (fun h => hne.1 (Addr.mk.inj h).1)]; exact s2.1, by rw [World.cell?_setCell_other _ _ _ _ (fun h => hne.2.1 (Addr.mk.inj h).1)]; exact s2.2.1, by rw [World.cell?_setCell_other _ _ _ _ (fun h => hne.2.2 (Addr.mk.inj h).1)]; exact s2.2.2⟩))
 go_wp2
 go_ret
 exact ⟨rfl, k2.set 0 _, (Chg.ofBelow d2).set 0 _⟩
end Go.Proofs.YtljnkicgahepfaaGreatDoor.WP
