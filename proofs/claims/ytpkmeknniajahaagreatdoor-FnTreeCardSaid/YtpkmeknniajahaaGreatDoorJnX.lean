/- Joined texts: plain facts and contracts. -/
import Derived.Test.YtpkmeknniajahaaGreatDoorJnT
import Derived.Shelf.SlSortCmp.WholeK
import Derived.Sort.Grow
import Derived.Shelf.SlGeneric
import Derived.Shelf.SlLaysF0
import Derived.Ground.SlsfProg
import Derived.Test.YtpkmeknniajahaaGreatDoorProg
import Derived.Test.YtpkmeknniajahaaGreatDoorJnF
import Derived.Test.YtpkmeknniajahaaGreatDoorJnQ
import Derived.Test.YtpkmeknniajahaaGreatDoorJnB
import Derived.Test.YtpkmeknniajahaaGreatDoorJnU
import Derived.Deep.LoopGhost
set_option linter.unusedVariables false
set_option linter.unusedSimpArgs false
set_option maxRecDepth 10000
namespace Go.Proofs.YtpkmeknniajahaaGreatDoor.TA
open Go.ChangeShapes Go.WideShapes Go.ChangeAt Go.RowKit
open Go.Sort (Holds HoldsK putRow putRowK flatK grow SWO PermIn SortedIn)
open FI (Fl ffl zf)
open TY (srt)
set_option linter.unusedSectionVars false
variable {W : World} {g : Nat} {l : List Fl}
variable [Inhabited Fl]
theorem flat_eq (l : List Fl) : flatK Fl.vals 5 l.toArray = (ffl l).toArray := by
 refine Go.Sort.ext_get! (by simp [FI.ffl_length]) fun t ht => ?_
 have ht' : t < l.length * 5 := by simpa using ht
 rw [Go.Sort.get_flatK _ _ _ _ (by simpa using ht')]
 have h1 : t / 5 < l.length := by omega
 have h2 : t % 5 < 5 := by omega
 have h3 := FI.ffl_get l (t / 5) (t % 5) h1 h2
 rw [show t / 5 * 5 + t % 5 = t by omega] at h3
 have hd : l.toArray[t / 5]! = l.getD (t / 5) zf := by
  rw [getElem!_pos l.toArray _ (by simpa using h1)]
  simp [List.getD, h1]
 rw [hd]
 have e1 : (ffl l).toArray[t]! = ((ffl l)[t]?).getD default := by simp
 have e2 : ((l.getD (t / 5) zf).vals)[t % 5]! = (((l.getD (t / 5) zf).vals)[t % 5]?).getD default := by simp
 rw [e1, e2, h3]
theorem holds_of (h : K0.Blk g (ffl l) W) : HoldsK Fl.vals 5 W g 0 l.toArray := by
 unfold HoldsK
 rw [flat_eq]
 intro j hj
 have hj' : j < (ffl l).length := by simpa using hj
 refine ⟨?_, by simpa using h.free j hj'⟩
 rw [Nat.zero_add, h.cell j hj']
 simp [hj']
theorem blk_of (hg : g < W.heap.size) (h : HoldsK Fl.vals 5 W g 0 l.toArray) : K0.Blk g (ffl l) W := by
 unfold HoldsK at h
 rw [flat_eq] at h
 refine ⟨fun j hj => ?_, fun j hj => ?_, hg⟩
 ·have := (h j (by simpa using hj)).1
  rw [Nat.zero_add] at this
  rw [this]
  simp [hj]
 ·have := (h j (by simpa using hj)).2
  rwa [Nat.zero_add] at this
theorem sorted_blk {n : Nat} {d : Array Fl} {os : Array Obj} (h : K0.Blk g (ffl l) W) (hl : d.size = l.length) : K0.Blk g (ffl d.toList) (sortWorldK Fl.vals 5 W g 0 n d os) := by
 have h0 : Holds id (Sort.ahead W n) g 0 (flatK Fl.vals 5 l.toArray) := Go.Sort.holds_ahead _ _ _ _ _ _ (holds_of h)
 have hlt : g < (putRowK Fl.vals 5 (Sort.ahead W n) g 0 d).heap.size := by unfold putRowK; rw [Go.Sort.size_putRow]; exact h.lt
 refine blk_of (by unfold sortWorldK; rw [Go.Sort.size_grow]; omega) ?_
 show Holds id (grow (putRow id (Sort.ahead W n) g 0 (flatK Fl.vals 5 d)) os) g 0 (flatK Fl.vals 5 d)
 exact Go.Sort.holds_grow _ _ _ _ _ _ hlt (Go.Sort.holds_putRow _ _ _ _ _ _ h0 (by simp [hl]))
theorem sorted_below {n base : Nat} {d : Array Fl} {os : Array Obj} (hb : base ≤ g) (hg : base ≤ W.heap.size) : Below base W (sortWorldK Fl.vals 5 W g 0 n d os) := by
 refine ⟨rfl, rfl, rfl, ?_, fun k hk => ?_⟩
 ·unfold sortWorldK putRowK
  rw [Go.Sort.size_grow, Go.Sort.size_putRow]
  exact Nat.le_add_right _ _
 ·unfold sortWorldK putRowK
  rw [Go.Sort.heap_grow_old _ _ (by rw [Go.Sort.size_putRow]; exact Nat.lt_of_lt_of_le hk hg)]
  show (W.heap.modify g _)[k]? = W.heap[k]?
  rw [Array.getElem?_modify]
  rw [if_neg (by omega)]
def cf (x y : Fl) : Int := Lib.compareBytes x.path.toList y.path.toList
theorem cf_lt (x y : Fl) : ltOf cf x y = TT.lt x.path y.path := TT.compare_less _ _
theorem swo_cf : SWO (ltOf cf) := by
 have e : ltOf cf = fun x y => TT.lt x.path y.path := by funext x y; exact cf_lt x y
 rw [e]
 exact TT.swo_key _
theorem left {d' : Array Fl} (h1 : PermIn 0 l.toArray.size l.toArray d') (h2 : SortedIn (ltOf cf) 0 l.toArray.size d') (hu : ∀ a ∈ l, ∀ b ∈ l, a.path = b.path → a = b) : d'.toList = srt l := by
 have e : ltOf cf = fun x y => TT.lt x.path y.path := by funext x y; exact cf_lt x y
 rw [e] at h2
 have := TT.sorted_eq (TT.swo_key (fun f : Fl => f.path)) h1 h2 (fun a ha b hb x y => hu a (by simpa using ha) b (by simpa using hb) (TT.lt_total x y))
 simpa [srt] using this
end Go.Proofs.YtpkmeknniajahaaGreatDoor.TA
namespace Go.Proofs
open Go.Shelf
def Tryz.sortFl_ren : Go.Shelf.Ren := ⟨fun | 6 => 43 | 15 => 74 | 14 => 73 | 28 => 103 | 29 => 104 | 20 => 95 | 21 => 96 | 22 => 97 | 23 => 98 | 24 => 99 | 25 => 100 | 26 => 101 | 27 => 102 | 46 => 127 | 47 => 128 | 48 => 129 | 49 => 130 | 50 => 131 | 57 => 147 | n => n, fun | 22 => 26 | 24 => 38 | 25 => 62 | 3 => 3 | 39 => 97 | 0 => 0 | 53 => 126 | 55 => 128 | 4 => 4 | 46 => 120 | 45 => 119 | 50 => 108 | 5 => 5 | 9 => 9 | 66 => 152 | 70 => 156 | 76 => 167 | 77 => 168 | n => n, fun | n => n⟩
theorem Tryz.sortFl : Go.Proofs.SlLaysF0.n6 Tryz.prog Tryz.sortFl_ren := {
 mixed := by kernel_rfl
 f6 := ⟨Tryz.f43.name, by decide, Tryz.func43.trans (congrArg some (by kernel_rfl))⟩
 f14 := ⟨Tryz.f73.name, by decide, Tryz.func73.trans (congrArg some (by kernel_rfl))⟩
 f15 := Tryz.func74.trans (congrArg some (by kernel_rfl))
 f20 := ⟨Tryz.f95.name, by decide, Tryz.func95.trans (congrArg some (by kernel_rfl))⟩
 f21 := ⟨Tryz.f96.name, by decide, Tryz.func96.trans (congrArg some (by kernel_rfl))⟩
 f22 := ⟨Tryz.f97.name, by decide, Tryz.func97.trans (congrArg some (by kernel_rfl))⟩
 f23 := ⟨Tryz.f98.name, by decide, Tryz.func98.trans (congrArg some (by kernel_rfl))⟩
 f24 := ⟨Tryz.f99.name, by decide, Tryz.func99.trans (congrArg some (by kernel_rfl))⟩
 f25 := ⟨Tryz.f100.name, by decide, Tryz.func100.trans (congrArg some (by kernel_rfl))⟩
 f26 := ⟨Tryz.f101.name, by decide, Tryz.func101.trans (congrArg some (by kernel_rfl))⟩
 f27 := ⟨Tryz.f102.name, by decide, Tryz.func102.trans (congrArg some (by kernel_rfl))⟩
 f28 := Tryz.func103.trans (congrArg some (by kernel_rfl))
 f29 := Tryz.func104.trans (congrArg some (by kernel_rfl))
 f46 := ⟨Tryz.f127.name, by decide, Tryz.func127.trans (congrArg some (by kernel_rfl))⟩
 f47 := Tryz.func128.trans (congrArg some (by kernel_rfl))
 f48 := Tryz.func129.trans (congrArg some (by kernel_rfl))
 f49 := ⟨Tryz.f130.name, by decide, Tryz.func130.trans (congrArg some (by kernel_rfl))⟩
 f50 := ⟨Tryz.f131.name, by decide, Tryz.func131.trans (congrArg some (by kernel_rfl))⟩
 f57 := ⟨Tryz.f147.name, by decide, Tryz.func147.trans (congrArg some (by kernel_rfl))⟩
 t0 := Tryz.underlying0
 a0 := Tryz.isAgg0
 z0 := Tryz.sizeOf0
 v0 := Tryz.zeroValue0
 t3 := Tryz.underlying3
 a3 := Tryz.isAgg3
 z3 := Tryz.sizeOf3
 v3 := Tryz.zeroValue3
 t4 := Tryz.underlying4
 a4 := Tryz.isAgg4
 z4 := Tryz.sizeOf4
 v4 := Tryz.zeroValue4
 t5 := Tryz.underlying5
 a5 := Tryz.isAgg5
 z5 := Tryz.sizeOf5
 v5 := Tryz.zeroValue5
 t9 := Tryz.underlying9
 a9 := Tryz.isAgg9
 z9 := Tryz.sizeOf9
 v9 := Tryz.zeroValue9
 t22 := Tryz.underlying26
 a22 := Tryz.isAgg26
 z22 := Tryz.sizeOf26
 v22 := Tryz.zeroValue26
 t25 := Tryz.underlying62
 a25 := Tryz.isAgg62
 z25 := Tryz.sizeOf62
 v25 := Tryz.zeroValue62
 t39 := Tryz.underlying97
 a39 := Tryz.isAgg97
 z39 := Tryz.sizeOf97
 v39 := Tryz.zeroValue97
 t45 := Tryz.underlying119
 a45 := Tryz.isAgg119
 z45 := Tryz.sizeOf119
 v45 := Tryz.zeroValue119
 t46 := Tryz.underlying120
 a46 := Tryz.isAgg120
 z46 := Tryz.sizeOf120
 v46 := Tryz.zeroValue120
 t50 := Tryz.underlying108
 a50 := Tryz.isAgg108
 z50 := Tryz.sizeOf108
 v50 := Tryz.zeroValue108
 t53 := Tryz.underlying126
 a53 := Tryz.isAgg126
 z53 := Tryz.sizeOf126
 v53 := Tryz.zeroValue126
 t55 := Tryz.underlying128
 a55 := Tryz.isAgg128
 z55 := Tryz.sizeOf128
 v55 := Tryz.zeroValue128
 t66 := Tryz.underlying152
 a66 := Tryz.isAgg152
 z66 := Tryz.sizeOf152
 v66 := Tryz.zeroValue152
 t70 := Tryz.underlying156
 a70 := Tryz.isAgg156
 z70 := Tryz.sizeOf156
 v70 := Tryz.zeroValue156
 t76 := Tryz.underlying167
 a76 := Tryz.isAgg167
 z76 := Tryz.sizeOf167
 v76 := Tryz.zeroValue167
 t77 := Tryz.underlying168
 a77 := Tryz.isAgg168
 z77 := Tryz.sizeOf168
 v77 := Tryz.zeroValue168 }
end Go.Proofs
namespace Go.Proofs.YtpkmeknniajahaaGreatDoor.TU
open Go.ChangeShapes Go.WideShapes Go.ChangeAt Go.RowKit
open FI (Fl)
theorem run_cat {p q : ByteArray} (h : p.size + q.size ≤ 9223372036854775807) (W : World) : (binOp .add 9 (.string p) (.string q)).run Tryz.prog W = .ok (.string (p ++ q)) W := by
 simp [binOp, Op.stringOp, go_sem]
 omega
theorem cat_yield {p q : ByteArray} {A : Act} {o : Oper} {W : World} {x y : Operand} (h : p.size + q.size ≤ 9223372036854775807) (ho : o.op = .binOp .add 9 x y 9 := by rfl) (hx : A.eval x = .string p := by rfl) (hy : A.eval y = .string q := by rfl) : (execOp A.eval o).run Tryz.prog W = .ok (.value (.string (p ++ q))) W := by
 have hr := run_cat h W
 obtain ⟨ev, hev⟩ : ∃ ev, A.eval = ev := ⟨_, rfl⟩
 rw [hev] at hx hy ⊢
 simp [execOp, ho, hx, hy, go_sem, hr]
 exact h
set_option maxHeartbeats 4000000 in
theorem fileLine (f : Fl) (w : World) (hd : f.data.size ≤ 1048576) (ho : (Lit.int .i64 f.owner).wf = true) (hl : (glue (words f)).size ≤ 1073741824) (ht : Tabs w) :
  Calls Tryz.prog 46 #[.agg #[.int .i64 f.ino, .string f.path, .int .i64 f.kind, .int .i64 f.owner, .string f.data]] w fun e w' => e = .returned (.string (line f)) ∧ Below w.heap.size w w' := by
 have HD : Hid (∀ W, Tabs W → Calls Tryz.prog 77 #[.int .i64 f.owner] W fun e w' => e = .returned (.string (dt f.owner)) ∧ Below W.heap.size W w') := fun W h => D1.impl_DecText _ ho W h.p
 have HX : Hid (∀ W, Tabs W → Calls Tryz.prog 78 #[.string f.data] W fun e w' => e = .returned (.string (hx f.data)) ∧ Below W.heap.size W w') := fun W h => impl_hex _ W (by omega) h.h
 have HJ : Hid (∀ W, Calls Tryz.prog 76 #[.slice (some ⟨W.heap.size, 0, none⟩) 4 4, .string ⟨#[32]⟩] (W.alloc (.cells #[.string (letter f.kind), .string f.path, .string (dt f.owner), .string (hx f.data)] 9)) fun e w' => e = .returned (.string (glue (words f))) ∧ Below W.heap.size W w') := fun W => join4 (words f) W rfl (by omega)
 have hS : (glue (words f)).size + (⟨#[10]⟩ : ByteArray).size ≤ 9223372036854775807 := by show _ + 1 ≤ _; omega
 have t0 := fb_new w f ht
 unfold line
 generalize glue (words f) = G at HJ hS ⊢
 obtain ⟨io, pa, ki, ow, da⟩ := f
 simp only at t0 HD HX HJ ⊢
 generalize dt ow = y at HD HJ
 generalize hx da = x at HX HJ
 have c0 := t0.b.c0
 have c1 := t0.b.c1
 have c2 := t0.b.c2
 have c3 := t0.b.c3
 have c4' := c4 t0.b
 have u0 := t0.drew
 clear ht hl hd ho
 have HS : Hid (∀ W, FB w ⟨io, pa, ki, ow, da⟩ W → W.cell? ⟨w.heap.size, 1, none⟩ = some (.string pa) ∧ W.cell? ⟨w.heap.size, 3, none⟩ = some (.int .i64 ow) ∧ W.cell? ⟨w.heap.size, 4, none⟩ = some (.string da)) := fun W h => ⟨h.b.c1, h.b.c3, c4 h.b⟩
 have s0 := HS.out _ u0
 by_cases hk : ki = 2
 ·subst hk
  have e : letter 2 = ⟨#[100]⟩ := by unfold letter; rw [if_pos rfl]
  rw [e] at HJ
  clear e
  go_enter Tryz.func46, Tryz.ntmps46
  go_wp2
  refine wp_region_held (S := fun W => W.cell? ⟨w.heap.size, 1, none⟩ = some (.string pa) ∧ W.cell? ⟨w.heap.size, 3, none⟩ = some (.int .i64 ow) ∧ W.cell? ⟨w.heap.size, 4, none⟩ = some (.string da)) (by kernel_rfl) ?_
  refine wpAnyH_take (i := 0) (v := .string ⟨#[100]⟩) rfl (by kernel_rfl) (by kernel_rfl) (by kernel_rfl) (fun _ _ _ h => h) (Or.inl ⟨by rfl, fun w' hS' => by rfl⟩) s0 ?_
  simp only [BZ.z, Act.put, Nat.reduceAdd]
  refine wpAnyH_take (i := 1) (v := .pointer (some ⟨w.heap.size, 1, none⟩)) rfl (by kernel_rfl) (by kernel_rfl) (by kernel_rfl) (fun _ _ _ h => h) (Or.inl ⟨by rfl, fun w' hS' => by rfl⟩) s0 ?_
  simp only [BZ.z, Act.put, Nat.reduceAdd]
  refine wpAnyH_take (i := 2) (v := .string pa) rfl (by kernel_rfl) (by kernel_rfl) (by kernel_rfl) (fun _ _ _ h => h) (Or.inl ⟨by rfl, fun w' hS' => ?_⟩) s0 ?_
  ·obtain ⟨p1, p3, p4⟩ := hS'
   go_simp
  simp only [BZ.z, Act.put, Nat.reduceAdd]
  refine wpAnyH_take (i := 3) (v := .pointer (some ⟨w.heap.size, 3, none⟩)) rfl (by kernel_rfl) (by kernel_rfl) (by kernel_rfl) (fun _ _ _ h => h) (Or.inl ⟨by rfl, fun w' hS' => by rfl⟩) s0 ?_
  simp only [BZ.z, Act.put, Nat.reduceAdd]
  refine wpAnyH_take (i := 4) (v := .int .i64 ow) rfl (by kernel_rfl) (by kernel_rfl) (by kernel_rfl) (fun _ _ _ h => h) (Or.inl ⟨by rfl, fun w' hS' => ?_⟩) s0 ?_
  ·obtain ⟨p1, p3, p4⟩ := hS'
   go_simp
  simp only [BZ.z, Act.put, Nat.reduceAdd]
  refine wpAnyH_take (i := 6) (v := .pointer (some ⟨w.heap.size, 4, none⟩)) rfl (by kernel_rfl) (by kernel_rfl) (by kernel_rfl) (fun _ _ _ h => h) (Or.inl ⟨by rfl, fun w' hS' => by rfl⟩) s0 ?_
  simp only [BZ.z, Act.put, Nat.reduceAdd]
  refine wpAnyH_take (i := 7) (v := .string da) rfl (by kernel_rfl) (by kernel_rfl) (by kernel_rfl) (fun _ _ _ h => h) (Or.inl ⟨by rfl, fun w' hS' => ?_⟩) s0 ?_
  ·obtain ⟨p1, p3, p4⟩ := hS'
   go_simp
  simp only [BZ.z, Act.put, Nat.reduceAdd]
  refine Y0.one_callw (i := 5) (by kernel_rfl) rfl (by rfl) (.tmp 11) _ rfl (.int .i64 ow) (by rfl) (enters_of Tryz.func77 (by kernel_rfl) rfl) ((HD.out _ u0.t).mono ?_)
  rintro e w1 ⟨rfl, b1⟩
  have t1 := u0.below b1
  have s1 := HS.out _ t1
  refine ⟨_, rfl, s1, ?_⟩
  simp only [BZ.z, Act.put, Nat.reduceAdd]
  refine Y0.one_callw (i := 8) (by kernel_rfl) rfl (by rfl) (.tmp 14) _ rfl (.string da) (by rfl) (enters_of Tryz.func78 (by kernel_rfl) rfl) ((HX.out _ t1.t).mono ?_)
  rintro e w2 ⟨rfl, b2⟩
  have t2 := t1.below b2
  have s2 := HS.out _ t2
  refine ⟨_, rfl, s2, ?_⟩
  simp only [BZ.z, Act.put, Nat.reduceAdd]
  have tz := t2.below (K0.below_new w2 (.cells #[.string ⟨#[100]⟩, .string pa, .string y, .string x] 9))
  have sz := HS.out _ tz
  refine Y0.one_plain (i := 9) (u := .slice (some ⟨w2.heap.size, 0, none⟩) 4 4) (w' := w2.alloc (.cells #[.string ⟨#[100]⟩, .string pa, .string y, .string x] 9)) (by kernel_rfl) rfl (by rfl) (by go_simp) sz ?_
  simp only [BZ.z, Act.put, Nat.reduceAdd]
  refine Y0.one_call2w (i := 10) (by kernel_rfl) rfl (by rfl) (.tmp 16) (.const (.string ⟨#[32]⟩)) _ rfl (.slice (some ⟨w2.heap.size, 0, none⟩) 4 4) (.string ⟨#[32]⟩) (by rfl) (by rfl) (enters_of Tryz.func76 (by kernel_rfl) rfl) ((HJ.out w2).mono ?_)
  rintro e w4 ⟨rfl, b4⟩
  have t4 := t2.below b4
  have s4 := HS.out _ t4
  refine ⟨_, rfl, s4, ?_⟩
  simp only [BZ.z, Act.put, Nat.reduceAdd]
  refine wpAnyH_take (i := 11) (v := .string (G ++ ⟨#[10]⟩)) rfl (by kernel_rfl) (by kernel_rfl) (by kernel_rfl) (fun _ _ _ h => h) (Or.inl ⟨by rfl, fun w' hS' => ?_⟩) s4 ?_
  ·(refine cat_yield ?_; exact hS)
  simp only [BZ.z, Act.put, Nat.reduceAdd]
  refine wpAnyH_take (i := 12) (v := .string (G ++ ⟨#[10]⟩)) rfl (by kernel_rfl) (by kernel_rfl) (by kernel_rfl) (fun _ _ _ h => h) (Or.inl ⟨by rfl, fun w' hS' => by rfl⟩) s4 ?_
  simp only [BZ.z, Act.put, Nat.reduceAdd]
  refine wpAnyH_done (by kernel_rfl) ?_ _
  go_wp2
  go_ret
  exact ⟨rfl, t4.bel⟩
 ·have e : letter ki = ⟨#[102]⟩ := by unfold letter; rw [if_neg hk]
  rw [e] at HJ
  clear e
  go_enter Tryz.func46, Tryz.ntmps46
  go_wp2
  refine wp_region_held (S := fun W => W.cell? ⟨w.heap.size, 1, none⟩ = some (.string pa) ∧ W.cell? ⟨w.heap.size, 3, none⟩ = some (.int .i64 ow) ∧ W.cell? ⟨w.heap.size, 4, none⟩ = some (.string da)) (by kernel_rfl) ?_
  refine wpAnyH_take (i := 0) (v := .string ⟨#[102]⟩) rfl (by kernel_rfl) (by kernel_rfl) (by kernel_rfl) (fun _ _ _ h => h) (Or.inl ⟨by rfl, fun w' hS' => by rfl⟩) s0 ?_
  simp only [BZ.z, Act.put, Nat.reduceAdd]
  refine wpAnyH_take (i := 1) (v := .pointer (some ⟨w.heap.size, 1, none⟩)) rfl (by kernel_rfl) (by kernel_rfl) (by kernel_rfl) (fun _ _ _ h => h) (Or.inl ⟨by rfl, fun w' hS' => by rfl⟩) s0 ?_
  simp only [BZ.z, Act.put, Nat.reduceAdd]
  refine wpAnyH_take (i := 2) (v := .string pa) rfl (by kernel_rfl) (by kernel_rfl) (by kernel_rfl) (fun _ _ _ h => h) (Or.inl ⟨by rfl, fun w' hS' => ?_⟩) s0 ?_
  ·obtain ⟨p1, p3, p4⟩ := hS'
   go_simp
  simp only [BZ.z, Act.put, Nat.reduceAdd]
  refine wpAnyH_take (i := 3) (v := .pointer (some ⟨w.heap.size, 3, none⟩)) rfl (by kernel_rfl) (by kernel_rfl) (by kernel_rfl) (fun _ _ _ h => h) (Or.inl ⟨by rfl, fun w' hS' => by rfl⟩) s0 ?_
  simp only [BZ.z, Act.put, Nat.reduceAdd]
  refine wpAnyH_take (i := 4) (v := .int .i64 ow) rfl (by kernel_rfl) (by kernel_rfl) (by kernel_rfl) (fun _ _ _ h => h) (Or.inl ⟨by rfl, fun w' hS' => ?_⟩) s0 ?_
  ·obtain ⟨p1, p3, p4⟩ := hS'
   go_simp
  simp only [BZ.z, Act.put, Nat.reduceAdd]
  refine wpAnyH_take (i := 6) (v := .pointer (some ⟨w.heap.size, 4, none⟩)) rfl (by kernel_rfl) (by kernel_rfl) (by kernel_rfl) (fun _ _ _ h => h) (Or.inl ⟨by rfl, fun w' hS' => by rfl⟩) s0 ?_
  simp only [BZ.z, Act.put, Nat.reduceAdd]
  refine wpAnyH_take (i := 7) (v := .string da) rfl (by kernel_rfl) (by kernel_rfl) (by kernel_rfl) (fun _ _ _ h => h) (Or.inl ⟨by rfl, fun w' hS' => ?_⟩) s0 ?_
  ·obtain ⟨p1, p3, p4⟩ := hS'
   go_simp
  simp only [BZ.z, Act.put, Nat.reduceAdd]
  refine Y0.one_callw (i := 5) (by kernel_rfl) rfl (by rfl) (.tmp 11) _ rfl (.int .i64 ow) (by rfl) (enters_of Tryz.func77 (by kernel_rfl) rfl) ((HD.out _ u0.t).mono ?_)
  rintro e w1 ⟨rfl, b1⟩
  have t1 := u0.below b1
  have s1 := HS.out _ t1
  refine ⟨_, rfl, s1, ?_⟩
  simp only [BZ.z, Act.put, Nat.reduceAdd]
  refine Y0.one_callw (i := 8) (by kernel_rfl) rfl (by rfl) (.tmp 14) _ rfl (.string da) (by rfl) (enters_of Tryz.func78 (by kernel_rfl) rfl) ((HX.out _ t1.t).mono ?_)
  rintro e w2 ⟨rfl, b2⟩
  have t2 := t1.below b2
  have s2 := HS.out _ t2
  refine ⟨_, rfl, s2, ?_⟩
  simp only [BZ.z, Act.put, Nat.reduceAdd]
  have tz := t2.below (K0.below_new w2 (.cells #[.string ⟨#[102]⟩, .string pa, .string y, .string x] 9))
  have sz := HS.out _ tz
  refine Y0.one_plain (i := 9) (u := .slice (some ⟨w2.heap.size, 0, none⟩) 4 4) (w' := w2.alloc (.cells #[.string ⟨#[102]⟩, .string pa, .string y, .string x] 9)) (by kernel_rfl) rfl (by rfl) (by go_simp) sz ?_
  simp only [BZ.z, Act.put, Nat.reduceAdd]
  refine Y0.one_call2w (i := 10) (by kernel_rfl) rfl (by rfl) (.tmp 16) (.const (.string ⟨#[32]⟩)) _ rfl (.slice (some ⟨w2.heap.size, 0, none⟩) 4 4) (.string ⟨#[32]⟩) (by rfl) (by rfl) (enters_of Tryz.func76 (by kernel_rfl) rfl) ((HJ.out w2).mono ?_)
  rintro e w4 ⟨rfl, b4⟩
  have t4 := t2.below b4
  have s4 := HS.out _ t4
  refine ⟨_, rfl, s4, ?_⟩
  simp only [BZ.z, Act.put, Nat.reduceAdd]
  refine wpAnyH_take (i := 11) (v := .string (G ++ ⟨#[10]⟩)) rfl (by kernel_rfl) (by kernel_rfl) (by kernel_rfl) (fun _ _ _ h => h) (Or.inl ⟨by rfl, fun w' hS' => ?_⟩) s4 ?_
  ·(refine cat_yield ?_; exact hS)
  simp only [BZ.z, Act.put, Nat.reduceAdd]
  refine wpAnyH_take (i := 12) (v := .string (G ++ ⟨#[10]⟩)) rfl (by kernel_rfl) (by kernel_rfl) (by kernel_rfl) (fun _ _ _ h => h) (Or.inl ⟨by rfl, fun w' hS' => by rfl⟩) s4 ?_
  simp only [BZ.z, Act.put, Nat.reduceAdd]
  refine wpAnyH_done (by kernel_rfl) ?_ _
  go_wp2
  go_ret
  exact ⟨rfl, t4.bel⟩
end Go.Proofs.YtpkmeknniajahaaGreatDoor.TU
namespace Go.Proofs.YtpkmeknniajahaaGreatDoor.TB
open Go.ChangeShapes Go.WideShapes Go.ChangeAt Go.RowKit
open Go.Sort (grow grow_grow alloc_eq_grow)
open FI (Fl files FBuf ffl file_cells zf filesTo fpath path_eq treeFiles)
open TW (sound)
open TU (line)
open TY (srt cat text cat_step srt_length)
set_option maxHeartbeats 1000000 in
theorem closure (x y : Fl) (W : World) : Calls Tryz.prog 44 #[.agg #[.int .i64 x.ino, .string x.path, .int .i64 x.kind, .int .i64 x.owner, .string x.data], .agg #[.int .i64 y.ino, .string y.path, .int .i64 y.kind, .int .i64 y.owner, .string y.data]] W fun e w' => e = .returned (.int .i64 (TA.cf x y)) ∧ ∃ q os', w' = grow (W.drewN q) os' := by
 have hcon : ∀ W', Calls Tryz.prog 45 #[.string x.path, .string y.path] W' fun e w' => e = .returned (.int .i64 (TA.cf x y)) ∧ w' = W' := fun W' => by
  have h := Tryz.strings_Compare x.path y.path W'
  rwa [show Lib.compareBytes x.path.data.toList y.path.data.toList = TA.cf x y by rw [TA.cf, Lib.toList_data, Lib.toList_data]] at h
 generalize TA.cf x y = r at hcon ⊢
 go_enter Tryz.func44, Tryz.ntmps44
 go_wp2_with (go_at_call 45; refine (hcon _).mono ?_; rintro e w' ⟨rfl, rfl⟩)
 go_ret
 exact ⟨rfl, 0, _, by rw [alloc_eq_grow, alloc_eq_grow, grow_grow]; rfl⟩
theorem sortFiles (l : List Fl) (c g : Nat) (W : World) (hl : l.length ≤ 1000) (h : K0.Blk g (ffl l) W) (hu : ∀ a ∈ l, ∀ b ∈ l, a.path = b.path → a = b) :
  Calls Tryz.prog 43 #[.slice (some ⟨g, 0, none⟩) l.length c, .func (.func 44) #[] #[]] W fun e w' => e = .returned (.tuple #[]) ∧ K0.Blk g (ffl (srt l)) w' ∧ ∀ base, base ≤ g → base ≤ W.heap.size → Below base W w' := by
 haveI : Inhabited Fl := ⟨zf⟩
 have eg : ∀ args w, (callFunc 44 args).run Tryz.prog w = .ok (.enter 44 args) w := enters_of Tryz.func44 (by kernel_rfl) rfl
 have hcon := AnyQ.slices_SortFunc Tryz.sortFl 5 Tryz.isAgg38 Tryz.sizeOf38 Fl.vals (fun _ => rfl) FI.one_file TA.cf TA.swo_cf 44 #[] g 0 c l.toArray W eg (fun m os dk hs x y => closure x y _) (TA.holds_of h) h.lt (by rw [List.size_toArray]; omega)
 change Calls Tryz.prog 43 _ _ _ at hcon
 rw [List.size_toArray] at hcon
 refine hcon.mono ?_
 rintro e w' ⟨rfl, d', n, os, hp, hs, rfl⟩
 have hd := TA.left (l := l) (by rw [List.size_toArray]; exact hp) (by rw [List.size_toArray]; exact hs) hu
 refine ⟨rfl, ?_, fun base h1 h2 => TA.sorted_below h1 h2⟩
 rw [← hd]
 exact TA.sorted_blk h (by have := hp.1; rw [this, List.size_toArray])
set_option maxHeartbeats 4000000 in
theorem impl_good (mem : ByteArray) (w : World) (hms : mem.size ≤ 281474976710656) (hs : sound mem = true) (ht : TU.Tabs w) : Calls Tryz.prog 18 #[.string mem] w fun e w' => e = .returned (.string (text mem)) ∧ Below w.heap.size w w' := by
 have hr := TW.readTree mem w hms
 have hA : Hid (∀ e w', TW.Ans mem w e w' → ∃ p, e = .returned (.tuple #[.pointer p, .bool (sound mem)]) ∧ Below w.heap.size w w' ∧ (sound mem = true → ∃ B N F P, p = some ⟨B, 0, none⟩ ∧ w.heap.size ≤ B ∧ TW.Good mem B N F P w')) := fun e w' h => h
 have e : text mem = cat ⟨#[]⟩ (srt (files mem)) := by unfold text; rw [if_pos hs]
 rw [e]
 have hmem : ∀ s ∈ srt (files mem), s ∈ files mem := fun s h => by
  have := (TT.srtFrom_perm (fun a b : Fl => TT.lt a.path b.path) (files mem) []).mem_iff.1 h
  simpa using this
 obtain ⟨_, _, hK0, htr⟩ := FI.sound_parts hs
 have hu : files mem = filesTo mem (fpath mem) 8 := by unfold files; rw [if_pos hs]
 have hlen : (files mem).length ≤ 8 := by rw [hu]; exact FI.filesTo_len mem _ 8
 have HP : Hid (∀ B N F P W, TW.Good mem B N F P W → Calls Tryz.prog 26 #[.pointer (some ⟨B, 0, none⟩)] W fun e w' => ∃ g c, e = .returned (.slice (some ⟨g, 0, none⟩) (files mem).length c) ∧ W.heap.size ≤ g ∧ K0.Blk g (ffl (files mem)) w' ∧ Below W.heap.size W w') := fun B N F P W h => by
  rw [hu, ← FI.filesTo_congr 8 fun x hx hk => (path_eq h.inv hK0 htr hx hk).1]
  exact treeFiles W h
 have HS : Hid (∀ g c W, K0.Blk g (ffl (files mem)) W → Calls Tryz.prog 43 #[.slice (some ⟨g, 0, none⟩) (files mem).length c, .func (.func 44) #[] #[]] W fun e w' => e = .returned (.tuple #[]) ∧ K0.Blk g (ffl (srt (files mem))) w' ∧ ∀ base, base ≤ g → base ≤ W.heap.size → Below base W w') := fun g c W h => sortFiles (files mem) c g W (by omega) h fun a ha b hb => TZ.path_one hs ha hb
 have HL : Hid (∀ s ∈ srt (files mem), ∀ W, TU.Tabs W → Calls Tryz.prog 46 #[.agg #[.int .i64 s.ino, .string s.path, .int .i64 s.kind, .int .i64 s.owner, .string s.data]] W fun e w' => e = .returned (.string (line s)) ∧ Below W.heap.size W w') := fun s h W t => by
  have m := TZ.small hs s (hmem s h)
  have l := TZ.line_small hs s (hmem s h)
  have g := TZ.glue_size s
  exact TU.fileLine s W (by omega) m.2.2.1 (by omega) t
 have HC : Hid (∀ j, (cat ⟨#[]⟩ ((srt (files mem)).take j)).size ≤ 100000) := fun j => TZ.cat_small hs _ j (by rw [srt_length]; exact hlen) hmem
 have HB : Hid (∀ s ∈ srt (files mem), (line s).size ≤ 5000) := fun s h => TZ.line_small hs s (hmem s h)
 have hSl := srt_length (files mem)
 rw [hs] at hA
 have HT : Hid (TU.Tabs w) := ht
 generalize srt (files mem) = S at HS HL HC HB hSl ⊢
 generalize files mem = F at HP HS hSl hlen
 clear hs e hu hmem hK0 htr ht hms
 go_enter Tryz.func18, Tryz.ntmps18
 go_wp2_with (first
  | (go_at_call 25; refine hr.mono ?_; intro e w1 hans; obtain ⟨p, rfl, b1, hy⟩ := hA.out _ _ hans; clear hans; obtain ⟨B, N, F', P, rfl, hB, hg⟩ := hy (by trivial); clear hy)
  | (go_at_call 26; refine (HP.out _ _ _ _ _ hg).mono ?_; rintro e w2 ⟨g, c, rfl, hg2, k2, b2⟩; have l2 := b1.trans (b2.mono b1.size); have hgw := Nat.le_trans b1.size hg2)
  | (go_at_call 43; refine (HS.out _ _ _ k2).mono ?_; rintro e w3 ⟨rfl, k3, b3⟩; have l3 := l2.trans (b3 _ hgw l2.size)))
 clear hr hA HP HS
 go_loopg [6, 22] F.length (fun gk v i W => ∃ j : Nat, j + gk = F.length ∧ i = .int .i64 j ∧ v = .string (cat ⟨#[]⟩ (S.take j)) ∧ K0.Blk g (ffl S) W ∧ Below w.heap.size w W)
 case atStart => exact ⟨0, by omega, rfl, rfl, k3, l3⟩
 case round =>
  obtain ⟨j, hj, rfl, rfl, kb4, l4⟩ := hrel
  clear k2 l2 b2 b1 hg k3 b3 l3 hB hg2
  by_cases hjn : j < F.length
  ·obtain ⟨x0, x1, x2, x3, x4⟩ := file_cells kb4 (i := j) (by omega)
   have d1 : (0 : Int) ≤ (j : Int) := by omega
   have d2 : (j : Int) < (F.length : Int) := by omega
   have hst := cat_step S j (by omega) ⟨#[]⟩
   have hL := HL.out S[j] (List.getElem_mem (by omega))
   have hB := HB.out S[j] (List.getElem_mem (by omega))
   rw [show S[j] = S.getD j zf by simp [List.getD, show j < S.length by omega]] at hst hL hB
   obtain ⟨s, hs'⟩ : ∃ s, S.getD j zf = s := ⟨_, rfl⟩
   rw [hs'] at x0 x1 x2 x3 x4 hst hL hB
   have hcs : (cat ⟨#[]⟩ (S.take j)).size ≤ 100000 := HC.out j
   obtain ⟨o, ho⟩ : ∃ o, cat ⟨#[]⟩ (S.take j) = o := ⟨_, rfl⟩
   rw [ho] at hst hcs ⊢
   have HLs : Hid (∀ W, TU.Tabs W → Calls Tryz.prog 46 #[.agg #[.int .i64 s.ino, .string s.path, .int .i64 s.kind, .int .i64 s.owner, .string s.data]] W fun e w' => e = .returned (.string (line s)) ∧ Below W.heap.size W w') := hL
   obtain ⟨L, hL'⟩ : ∃ L, line s = L := ⟨_, rfl⟩
   rw [hL'] at HLs hst hB
   have HO : Hid (cat ⟨#[]⟩ (S.take (j + 1)) = o ++ L) := hst
   have s1 : ¬ (9223372036854775807 < o.size + L.size) := by omega
   have nl := K0.below_new wr (.cells #[.int .i64 s.ino, .string s.path, .int .i64 s.kind, .int .i64 s.owner, .string s.data] 38)
   have nb := K0.blk_new [.int .i64 s.ino, .string s.path, .int .i64 s.kind, .int .i64 s.owner, .string s.data] wr 38
   have kb5 := kb4.below nl
   have l5 := l4.trans (nl.mono l4.size)
   have z0 := nb.c0
   have z1 := nb.c1
   have z2 := nb.c2
   have z3 := nb.c3
   have z4 := TU.c4 nb
   have t5 := HT.out.below l5
   clear hst hL nb nl kb4 l4 ho hs' hL'
   go_wp2_with (go_at_call 46; refine (HLs.out _ t5).mono ?_; rintro e w6 ⟨rfl, b6⟩; have kb6 := kb5.below b6; have l6 := l5.trans (b6.mono l5.size))
   go_roundg (F.length - (j + 1))
   case measure => omega
   case rel => exact ⟨j + 1, by omega, by go_num, by rw [HO.out], kb6, l6⟩
  ·have d2 : ¬ ((j : Int) < (F.length : Int)) := by omega
   have HV : Hid (cat ⟨#[]⟩ (S.take j) = cat ⟨#[]⟩ S) := by
    show cat ⟨#[]⟩ (S.take j) = cat ⟨#[]⟩ S
    rw [List.take_of_length_le (by omega)]
   go_wp2
   go_ret
   exact ⟨FI.ret_str HV.out, l4⟩
end Go.Proofs.YtpkmeknniajahaaGreatDoor.TB
