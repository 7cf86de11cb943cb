/- Joined texts: plain facts and contracts. -/
import Derived.Sort.LotA
import Derived.Lib.Bytealg
import Derived.Laws.Strings
import Derived.Lib.Strings
import Derived.WalkKit
import Derived.Test.YtpkmeknniajahaaGreatDoorRows
import Derived.ProofKit
import Derived.Deep.QuietTactic
import Derived.BigQuiet
import Derived.Laws.IdiomStrings
import Derived.Laws.IdiomCopy
import Derived.Laws.MakeOwn
import Derived.Lib.BufferWrite
import Derived.Below
import Derived.Lib.LaidTab
import Derived.WalkSmall
import Derived.ChangeVars
import Derived.Sort.Grow
import Derived.Deep.RegionHeld3
import Derived.Deep.RegionLaw
import Derived.Handy
import Derived.Laws.BitsLemmas
import Derived.Lib.ItoaNum
import Derived.Lib.ItoaLen
import Derived.Lib.ItoaMem
set_option linter.unusedVariables false
set_option linter.unusedSimpArgs false
set_option maxRecDepth 10000
namespace Go.Proofs.YtpkmeknniajahaaGreatDoor.TT
open Go.Sort
variable {α : Type}
def lt (x y : ByteArray) : Bool := Op.bytesLess x.toList y.toList
theorem less_eq : ∀ (x y : List UInt8), Op.bytesLess x y = decide (x < y)
 | [], [] => by simp [Op.bytesLess]
 | _ :: _, [] => by simp [Op.bytesLess]
 | [], _ :: _ => by simp [Op.bytesLess]
 | a :: x, b :: y => by
  rw [Op.bytesLess, less_eq x y]
  simp only [List.cons_lt_cons_iff]
  by_cases h1 : a < b <;> by_cases h2 : a = b <;> by_cases h3 : x < y <;> simp [h1, h2, h3]
theorem compare_less : ∀ (x y : List UInt8), decide (Lib.compareBytes x y < 0) = Op.bytesLess x y
 | [], [] => by simp [Op.bytesLess, Lib.compareBytes]
 | _ :: _, [] => by simp [Op.bytesLess, Lib.compareBytes]
 | [], _ :: _ => by simp [Op.bytesLess, Lib.compareBytes]
 | a :: x, b :: y => by
  rw [Op.bytesLess, Lib.compareBytes, ← compare_less x y]
  by_cases h1 : a < b
  ·simp [h1]
  ·by_cases h2 : b < a
   ·have h3 : ¬ a = b := by rintro rfl; exact h1 h2
    simp [h1, h2, h3]
   ·have h3 : a = b := UInt8.le_antisymm (UInt8.not_lt.1 h2) (UInt8.not_lt.1 h1)
    subst h3
    simp [h1]
theorem swo_key (key : α → ByteArray) : SWO (fun x y => lt (key x) (key y)) where
 irrefl x := by have := swo_ltStr.irrefl (key x).toList; unfold lt; rw [less_eq]; exact this
 trans x y z h1 h2 := by unfold lt at *; rw [less_eq] at *; exact swo_ltStr.trans _ _ _ h1 h2
 ntrans x y z h1 h2 := by unfold lt at *; rw [less_eq] at *; exact swo_ltStr.ntrans _ _ _ h1 h2
theorem lt_total {x y : ByteArray} (h1 : lt x y = false) (h2 : lt y x = false) : x = y := by
 unfold lt at *
 rw [less_eq] at *
 simp only [decide_eq_false_iff_not] at *
 have := List.le_antisymm (List.not_lt.1 h2) (List.not_lt.1 h1)
 rw [Lib.toList_data, Lib.toList_data] at this
 cases x; cases y
 simp_all
def ins (p : α → α → Bool) (f : α) (l : List α) : List α := l.takeWhile (fun x => p x f) ++ f :: l.dropWhile (fun x => p x f)
def srtFrom (p : α → α → Bool) (acc : List α) : List α → List α
 | [] => acc
 | f :: r => srtFrom p (ins p f acc) r
def Asc (p : α → α → Bool) (l : List α) : Prop := l.Pairwise fun a b => p b a = false
theorem ins_perm (p : α → α → Bool) (f : α) (l : List α) : (ins p f l).Perm (f :: l) := by
 unfold ins
 refine List.perm_middle.trans ?_
 rw [List.takeWhile_append_dropWhile]
theorem ins_asc {p : α → α → Bool} (hp : SWO p) (f : α) : ∀ {l : List α}, Asc p l → Asc p (ins p f l)
 | [], _ => by simp [ins, Asc]
 | a :: l, h => by
  obtain ⟨h1, h2⟩ := List.pairwise_cons.1 h
  by_cases ha : p a f = true
  ·have e : ins p f (a :: l) = a :: ins p f l := by simp [ins, ha]
   rw [e]
   refine List.pairwise_cons.2 ⟨fun b hb => ?_, ins_asc hp f h2⟩
   rcases List.mem_cons.1 ((ins_perm p f l).mem_iff.1 hb) with rfl | hb
   ·by_cases hq : p b a = true
    ·have := hp.trans _ _ _ ha hq
     rw [hp.irrefl] at this
     cases this
    ·simpa using hq
   ·exact h1 b hb
  ·have ha' : p a f = false := by simpa using ha
   have e : ins p f (a :: l) = f :: a :: l := by simp [ins, ha']
   rw [e]
   refine List.pairwise_cons.2 ⟨fun b hb => ?_, h⟩
   rcases List.mem_cons.1 hb with rfl | hb
   ·exact ha'
   ·exact hp.ntrans _ _ _ (h1 b hb) ha'
theorem srtFrom_perm (p : α → α → Bool) : ∀ (l acc : List α), (srtFrom p acc l).Perm (acc ++ l)
 | [], acc => by simp [srtFrom]
 | f :: r, acc => by
  rw [srtFrom]
  refine (srtFrom_perm p r _).trans ?_
  exact ((ins_perm p f acc).append_right r).trans (List.perm_middle.symm)
theorem srtFrom_asc {p : α → α → Bool} (hp : SWO p) : ∀ (l : List α) {acc : List α}, Asc p acc → Asc p (srtFrom p acc l)
 | [], acc, h => h
 | f :: r, acc, h => srtFrom_asc hp r (ins_asc hp f h)
theorem asc_unique {p : α → α → Bool} : ∀ {l m : List α}, l.Perm m → Asc p l → Asc p m → (∀ a ∈ l, ∀ b ∈ l, p a b = false → p b a = false → a = b) → l = m
 | [], m, h, _, _, _ => by rw [List.nil_perm.1 h]
 | a :: l, [], h, _, _, _ => by simp at h
 | a :: l, b :: m, h, h1, h2, hu => by
  obtain ⟨a1, a2⟩ := List.pairwise_cons.1 h1
  obtain ⟨b1, b2⟩ := List.pairwise_cons.1 h2
  have e : a = b := by
   rcases List.mem_cons.1 (h.mem_iff.1 (List.mem_cons_self (a := a) (l := l))) with e | ha
   ·exact e
   ·rcases List.mem_cons.1 (h.mem_iff.2 (List.mem_cons_self (a := b) (l := m))) with e | hb
    ·exact e.symm
    ·exact hu a List.mem_cons_self b (List.mem_cons_of_mem _ hb) (b1 a ha) (a1 b hb)
  subst e
  rw [asc_unique ((List.perm_cons a).1 h) a2 b2 (fun x hx y hy => hu x (List.mem_cons_of_mem _ hx) y (List.mem_cons_of_mem _ hy))]
theorem sorted_eq {p : α → α → Bool} [Inhabited α] (hp : SWO p) {d d' : Array α} (h1 : PermIn 0 d.size d d') (h2 : SortedIn p 0 d.size d') (hu : ∀ a ∈ d.toList, ∀ b ∈ d.toList, p a b = false → p b a = false → a = b) :
  d'.toList = srtFrom p [] d.toList := by
 obtain ⟨hs, -, hperm⟩ := h1
 have e1 : d.extract 0 d.size = d := by simp
 have e2 : d'.extract 0 d.size = d' := by rw [← hs]; simp
 rw [e1, e2] at hperm
 refine asc_unique (hperm.trans ((srtFrom_perm p d.toList []).trans (by simp)).symm) ?_ (srtFrom_asc hp _ List.Pairwise.nil) ?_
 ·refine List.pairwise_iff_getElem.2 fun i j hi hj hij => ?_
  have := h2 i j (Nat.zero_le _) hij (by simp at hj; omega)
  simpa [getElem!_pos, hi, hj, show i < d'.size by simpa using hi, show j < d'.size by simpa using hj] using this
 ·intro a ha b hb
  exact hu a (hperm.mem_iff.1 ha) b (hperm.mem_iff.1 hb)
end Go.Proofs.YtpkmeknniajahaaGreatDoor.TT
namespace Go.Proofs.YtpkmeknniajahaaGreatDoor.H0
open Go
def hd (d : Nat) : UInt8 := UInt8.ofNat (if d < 10 then 48 + d else 87 + d)
def hx (x : Int) : ByteArray := ⟨#[hd x.toNat]⟩
theorem hx_size (x : Int) : (hx x).size = 1 := rfl
theorem piece (d : Nat) (h : d < 16) : (⟨#[48, 49, 50, 51, 52, 53, 54, 55, 56, 57, 97, 98, 99, 100, 101, 102]⟩ : ByteArray).extract d (d + 1) = ⟨#[hd d]⟩ := by
 have : ∀ d : Fin 16, (⟨#[48, 49, 50, 51, 52, 53, 54, 55, 56, 57, 97, 98, 99, 100, 101, 102]⟩ : ByteArray).extract d.val (d.val + 1) = ⟨#[hd d.val]⟩ := by decide
 exact this ⟨d, h⟩
theorem hx_slice {P : Program} (t : TypeId) (ht : P.underlying t = some .string) (x : Int) (h0 : 0 ≤ x) (h1 : x < 16) (W : World) :
  (Instr.slice t (.string ⟨#[48, 49, 50, 51, 52, 53, 54, 55, 56, 57, 97, 98, 99, 100, 101, 102]⟩) (some (.int .i64 x)) (some (.int .i64 (x + 1))) none).run P W = .ok (.string (hx x)) W := by
 rw [run_slice_string W t _ .i64 .i64 x (x + 1) ht h0 (by omega) (by show x + 1 ≤ ((16 : Nat) : Int); omega)]
 obtain ⟨d, rfl⟩ : ∃ d : Nat, x = (d : Int) := ⟨x.toNat, by omega⟩
 rw [show ((d : Int) + 1).toNat = d + 1 by omega, show ((d : Int)).toNat = d by omega, piece d (by omega)]
 rfl
def hexL (l : List UInt8) : List UInt8 := l.flatMap fun c => [hd (c.toNat / 16), hd (c.toNat % 16)]
theorem hexL_snoc (l : List UInt8) (c : UInt8) : hexL (l ++ [c]) = hexL l ++ [hd (c.toNat / 16), hd (c.toNat % 16)] := by simp [hexL]
theorem hexL_length (l : List UInt8) : (hexL l).length = 2 * l.length := by
 induction l with
 | nil => rfl
 | cons c l ih => simp [hexL] at ih ⊢; omega
theorem take_snoc (s : ByteArray) (k : Nat) (h : k < s.size) : s.data.toList.take (k + 1) = s.data.toList.take k ++ [s[k]] := by
 rw [List.take_succ_eq_append_getElem (by rw [← Lib.size_eq]; exact h)]
 rfl
theorem take_all (s : ByteArray) : s.data.toList.take s.size = s.data.toList := List.take_of_length_le (by rw [← Lib.size_eq]; exact Nat.le_refl _)
theorem take_len (s : ByteArray) (k : Nat) (h : k ≤ s.size) : (hexL (s.data.toList.take k)).length = 2 * k := by
 rw [hexL_length, List.length_take, ← Lib.size_eq]
 omega
theorem grow_eq (s : ByteArray) (k : Nat) (h : k < s.size) (x y : Int) (hx0 : x = ((s[k].toNat / 16 : Nat) : Int)) (hy0 : y = ((s[k].toNat % 16 : Nat) : Int)) :
  (⟨(hexL (s.data.toList.take k)).toArray⟩ : ByteArray) ++ hx x ++ hx y = ⟨(hexL (s.data.toList.take (k + 1))).toArray⟩ := by
 rw [take_snoc s k h, hexL_snoc]
 subst hx0 hy0
 apply ByteArray.ext
 apply Array.toList_inj.1
 simp only [hx, ByteArray.data_append, Array.toList_append, Int.toNat_natCast, List.append_assoc, List.cons_append, List.nil_append]
end Go.Proofs.YtpkmeknniajahaaGreatDoor.H0
namespace Go.Proofs.YtpkmeknniajahaaGreatDoor.H1
open Go.ChangeShapes Go.WideShapes Go.ChangeAt Go.RowKit
def hex (s : ByteArray) : ByteArray := ⟨(H0.hexL s.data.toList).toArray⟩
set_option maxHeartbeats 1000000 in
theorem spec_Hex (s : ByteArray) (w : World) (hs : s.size ≤ 281474976710656) :
  Calls Tryz.prog 47 #[.string s] w fun e w' => e = .returned (.string (hex s)) ∧ ∃ n, w' = w.drewN n := by
 go_enter Tryz.func47, Tryz.ntmps47
 go_wp2
 go_loopw [3, 4] (fun t i w' => ∃ k n : Nat, k ≤ s.size ∧ w' = w.drewN n ∧ i = .int .i64 k ∧ t = .string ⟨(H0.hexL (s.data.toList.take k)).toArray⟩) (fun _ i _ => s.size - (intOf i).toNat)
 case atStart => exact ⟨0, 0, Nat.zero_le _, rfl, rfl, rfl⟩
 case round =>
  obtain ⟨k, n, hk, rfl, rfl, rfl⟩ := hrel
  by_cases hlt : k < s.size
  ·have hc := s[k].toNat_lt
   have e1 : (0 : Int) ≤ (k : Int) := by omega
   have e2 : (k : Int) < (s.size : Int) := by omega
   have hL := H0.take_len s k hk
   have hz1 : (⟨(H0.hexL (s.data.toList.take k)).toArray⟩ : ByteArray).size + (H0.hx ((s[k].toNat : Int) / 16)).size ≤ 9223372036854775807 := by
    rw [H0.hx_size]
    show (H0.hexL (s.data.toList.take k)).toArray.size + 1 ≤ _
    simp only [List.size_toArray]
    omega
   have hz2 : (⟨(H0.hexL (s.data.toList.take k)).toArray⟩ ++ H0.hx ((s[k].toNat : Int) / 16) : ByteArray).size + (H0.hx ((s[k].toNat : Int) % 16)).size ≤ 9223372036854775807 := by
    rw [H0.hx_size, ByteArray.size_append, H0.hx_size]
    show (H0.hexL (s.data.toList.take k)).toArray.size + 1 + 1 ≤ _
    simp only [List.size_toArray]
    omega
   have hg := H0.grow_eq s k hlt ((s[k].toNat : Int) / 16) ((s[k].toNat : Int) % 16) (by omega) (by omega)
   have HG : Hid ((⟨(H0.hexL (s.data.toList.take k)).toArray⟩ : ByteArray) ++ H0.hx ((s[k].toNat : Int) / 16) ++ H0.hx ((s[k].toNat : Int) % 16) = ⟨(H0.hexL (s.data.toList.take (k + 1))).toArray⟩) := hg
   have hs1 := H0.hx_slice (P := Tryz.prog) 9 Tryz.underlying9 ((s[k].toNat : Int) / 16) (by omega) (by omega)
   have hs2 := H0.hx_slice (P := Tryz.prog) 9 Tryz.underlying9 ((s[k].toNat : Int) % 16) (by omega) (by omega)
   clear hg hL
   go_wp2
   go_quiet (fail)
   go_wp2
   go_quiet (fail)
   go_wp2
   go_roundw
   case rel => exact ⟨k + 1, _, by omega, rfl, by go_num, by rw [← HG.out]⟩
   case measure => simp [intOf]; omega
  ·obtain rfl : k = s.size := by omega
   rw [H0.take_all]
   go_wp2
   go_ret
   exact ⟨rfl, _, rfl⟩
end Go.Proofs.YtpkmeknniajahaaGreatDoor.H1
namespace Go.Proofs.YtpkmeknniajahaaGreatDoor.B0
open Go.RowKit
variable {P : Program}
theorem add_off (b o j : Nat) : (⟨b, o, none⟩ : Addr).add j = ⟨b, o + j, none⟩ := by unfold Addr.add; split <;> simp_all
def Holds (w : World) (b o : Nat) (l : List UInt8) : Prop := ∀ j (hj : j < l.length), w.cell? ⟨b, o + j, none⟩ = some (.int .u8 (l[j].toNat : Int))
theorem conv_back (w : World) (src dst e : TypeId) (b o cap : Nat) (l : List UInt8) (hs : P.underlying src = some (.slice e)) (he : P.underlying e = some (.int .u8)) (hd : P.underlying dst = some .string)
  (h : Holds w b o l) (n : Nat) (hn : n = l.length) : (convert src dst (.slice (some ⟨b, o, none⟩) n cap)).run P w = .ok (.string ⟨l.toArray⟩) w := by
 subst hn
 exact run_convert_bytes_back w src dst e ⟨b, o, none⟩ cap l hs he hd (fun j hj => by rw [add_off]; exact h j hj)
theorem holds_new (w : World) (C : Array Value) (T : TypeId) (fr : Nat × Nat) (l : List UInt8) (h : ∀ j (hj : j < l.length), C[j]? = some (.int .u8 (l[j].toNat : Int))) :
  Holds (w.alloc (.cells C T fr)) w.heap.size 0 l := fun j hj => by
 rw [Nat.zero_add, World.cell?_alloc_mark]
 exact h j hj
theorem conv_to (w : World) (src dst e : TypeId) (s : ByteArray) (hs : P.underlying src = some .string) (hd : P.underlying dst = some (.slice e)) (he : P.underlying e = some (.int .u8)) :
  ∃ W cap, (convert src dst (.string s)).run P w = .ok (.slice (some ⟨w.heap.size, 0, none⟩) s.size cap) W ∧ s.size ≤ cap ∧ Below w.heap.size w W ∧ w.heap.size < W.heap.size ∧ Holds W w.heap.size 0 s.data.toList ∧ ∀ j, j < s.size → W.frozen? ⟨w.heap.size, j, none⟩ = false := by
 have hc : s.size ≤ grownCap w s.size 0 e := grownCap_ge w s.size 0 e
 refine ⟨_, _, run_bytes_of_string w src dst e s hs hd he, hc, ?_, ?_, ?_, ?_⟩
 ·exact (Below.refl _ w).drew.alloc (Nat.le_refl _) _
 ·show w.heap.size < (w.heap.push _).size
  simp
 ·refine holds_new w.drew _ _ _ _ fun j hj => ?_
  have hj' : j < s.data.size := by simpa using hj
  rw [bytesRow_at s _ j hj']
  simp
 ·intro j hj
  have := World.frozen?_alloc_mark w.drew (bytesRow s (grownCap w s.size 0 e)) e (bytesRow s (grownCap w s.size 0 e)).size ((bytesRow s (grownCap w s.size 0 e)).size + 1) j
  refine this.trans ?_
  have hb : s.size ≤ (bytesRow s (grownCap w s.size 0 e)).size := by
   have : s.data.size = s.size := rfl
   simp [bytesRow]
  have : ¬ (bytesRow s (grownCap w s.size 0 e)).size ≤ j := by omega
  simp [this]
theorem below_setCells {B b : Nat} {a : World} (hb : B ≤ b) : ∀ (vs : List Value) (o : Nat) (w : World), Below B a w → Below B a (w.setCells b o vs)
 | [], _, _, h => h
 | v :: r, o, w, h => below_setCells hb r (o + 1) _ (h.setCell (by simpa using hb) v)
theorem size_setCells (b : Nat) : ∀ (vs : List Value) (o : Nat) (w : World), (w.setCells b o vs).heap.size = w.heap.size
 | [], _, _ => rfl
 | v :: r, o, w => by rw [World.setCells, size_setCells b r]; simp
theorem isSome_setCells (b : Nat) : ∀ (vs : List Value) (o : Nat) (w : World) (x : Addr), (w.cell? x).isSome = true → ((w.setCells b o vs).cell? x).isSome = true
 | [], _, _, _, h => h
 | v :: r, o, w, x, h => by
  rw [World.setCells]
  refine isSome_setCells b r (o + 1) _ x ?_
  by_cases e : (⟨b, o, none⟩ : Addr) = x
  ·subst e
   obtain ⟨u, hu⟩ := Option.isSome_iff_exists.1 h
   rw [World.cell?_setCell_same _ _ _ hu]
   rfl
  ·rw [World.cell?_setCell_other _ _ _ _ e]
   exact h
theorem copy_str (w : World) (dT sT ty elem : TypeId) (b o dLen dCap : Nat) (t : ByteArray) (hu : P.underlying dT = some (.slice elem)) (hs : (P.info? elem).map (·.size) = some 1) (hle : t.size ≤ dLen)
  (hc : ∀ j, j < t.size → (w.cell? ⟨b, o + j, none⟩).isSome = true) (hf : ∀ j, j < t.size → w.frozen? ⟨b, o + j, none⟩ = false) :
  (Builtin.copy_ #[dT, sT] ty #[.slice (some ⟨b, o, none⟩) dLen dCap, .string t]).run P w = .ok (goInt t.size) (w.setCells b o (Lib.byteCells t.data.toList)) := by
 have hlen : (Lib.byteCells t.data.toList).length = t.size := by rw [Lib.byteCells_length, ← Lib.size_eq]
 have hst := run_storeCells_cells (P := P) b o (Lib.byteCells t.data.toList) 0 w (by rw [hlen]; simpa using hc) (by rw [hlen]; simpa using hf) (Lib.byteCells_one _)
 have hmin : Nat.min t.size dLen = t.size := Nat.min_eq_left hle
 have htk : List.take t.size (List.map (fun b : UInt8 => Value.int IntKind.u8 (b.toNat : Int)) t.data.toList) = Lib.byteCells t.data.toList := by
  rw [List.take_of_length_le (by rw [List.length_map, ← Lib.size_eq]; exact Nat.le_refl _)]
  rfl
 cases hq : P.info? elem with
 | none => simp [hq] at hs
 | some i =>
  simp [Builtin.copy_, run_underlying hu, Builtin.lenOf, Builtin.firstCells, sizeOf, typeInfo, hq, hmin, htk, hst]
theorem holds_with (W : World) (b : Nat) (s t : List UInt8) (k : Nat) (hk : k + t.length ≤ s.length) (h : Holds W b 0 s) :
  Holds (W.setCells b k (Lib.byteCells t)) b 0 (s.take k ++ t ++ s.drop (k + t.length)) := by
 have hl : (Lib.byteCells t).length = t.length := Lib.byteCells_length t
 have hin : ∀ j, j < (Lib.byteCells t).length → (W.cell? ⟨b, k + j, none⟩).isSome = true := fun j hj => by
  have := h (k + j) (by omega)
  rw [Nat.zero_add] at this
  rw [this]
  rfl
 intro j hj
 have hj' : j < s.length := by simp at hj; omega
 rw [Nat.zero_add]
 by_cases h1 : j < k
 ·rw [World.cell?_setCells_out b _ k W _ (fun _ _ => Or.inl h1)]
  have := h j hj'
  rw [Nat.zero_add] at this
  rw [this, List.getElem_append_left (by simp; omega), List.getElem_append_left (by simp; omega), List.getElem_take]
 ·by_cases h2 : j < k + t.length
  ·have := World.cell?_setCells_in b (Lib.byteCells t) k W hin (j - k) (by omega)
   rw [show k + (j - k) = j by omega] at this
   rw [this, List.getElem_append_left (by simp; omega), List.getElem_append_right (by simp; omega)]
   have hm : min k s.length = k := by omega
   simp [Lib.byteCells, hm]
  ·rw [World.cell?_setCells_out b _ k W _ (fun _ _ => Or.inr (by rw [hl]; show k + t.length ≤ j; omega))]
   have := h j hj'
   rw [Nat.zero_add] at this
   have e : k + t.length + (j - (s.take k ++ t).length) = j := by rw [List.length_append, List.length_take]; omega
   rw [this, List.getElem_append_right (by simp; omega), List.getElem_drop]
   simp only [e]
end Go.Proofs.YtpkmeknniajahaaGreatDoor.B0
namespace Go.Proofs.YtpkmeknniajahaaGreatDoor.L0
open Go.RowKit Go.Sort
theorem tab_mem {P : Program} {W : World} {name : String} {k : IntKind} {zs : List Int} {g : Nat} {t e : TypeId} {n : Nat}
  (hg : P.globalNamed name = some g) (hty : (P.globals[g]?).map (·.type) = some t) (ht : P.underlying t = some (.array n e)) (he : P.underlying e = some (.int k)) (hce : P.cellsOf e = 1) (hct : P.cellsOf t = n) :
  ∀ (l : List (String × DataW Unit)) (ps : List MemPlace), DataW.LaidVars P W l ps → ∀ j : Nat, l[j]? = some (name, Lib.tabData k zs) → Lib.TabIs P W name k zs
 | [], _, _, j, hj => by simp at hj
 | (n0, d0) :: l, ps, h, 0, hj => by
  obtain ⟨g', t', cs, fuel, p, q, hg', ht', hvar, hd, _, _⟩ := h
  obtain ⟨rfl, rfl⟩ : n0 = name ∧ d0 = Lib.tabData k zs := by simpa using hj
  obtain rfl := Option.some.inj (hg.symm.trans hg')
  obtain rfl := Option.some.inj (hty.symm.trans ht')
  unfold Lib.TabIs
  rw [hvar, ← Lib.cells_of_tab ht he hce hct hd]
 | (n0, d0) :: l, ps, h, j + 1, hj => by
  obtain ⟨g', t', cs, fuel, p, q, _, _, _, _, hr, _⟩ := h
  exact tab_mem hg hty ht he hce hct l q hr j (by simpa using hj)
theorem vars_one {H : Type} {enc : TypeId × Value → H} {P : Program} {w : World} {sp : Nat → Bool} {n : String} {gs : List (DataW H)} {ps : List MemPlace} (h : DataW.TrodVars enc P w sp [n] gs ps) : ∃ g1, gs = [g1] := by
 match gs, h with
 | [g1], _ => exact ⟨g1, rfl⟩
 | [], h => exact h.elim
 | _ :: _ :: _, h =>
  obtain ⟨_, _, _, _, _, _, _, _, _, _, h2, _⟩ := h
  exact h2.elim
theorem tab_below {P : Program} {W W' : World} {name : String} {k : IntKind} {zs : List Int} (h : Lib.TabIs P W name k zs) (hb : Below W.heap.size W W') : Lib.TabIs P W' name k zs := by
 unfold Lib.TabIs at h ⊢
 obtain ⟨g, hg⟩ : ∃ g, P.globalNamed name = some g := by
  unfold World.var? at h
  cases hq : P.globalNamed name with
  | none => simp [hq] at h
  | some g => exact ⟨g, rfl⟩
 refine var?_below hb hg ?_ h
 unfold World.var? at h
 simp only [hg, Option.bind_some] at h
 cases hq : W.heap[g]? with
 | none => simp [hq] at h
 | some o => exact (Array.getElem?_eq_some_iff.1 hq).1
theorem below_grow {W : World} (k : Nat) (os : Array Obj) : Below W.heap.size W (grow (W.drewN k) os) := by
 refine ⟨rfl, rfl, rfl, ?_, fun j hj => ?_⟩
 ·show W.heap.size ≤ (W.heap ++ os).size
  simp
 ·show (W.heap ++ os)[j]? = W.heap[j]?
  exact Array.getElem?_append_left hj
end Go.Proofs.YtpkmeknniajahaaGreatDoor.L0
namespace Go.Proofs.YtpkmeknniajahaaGreatDoor.H1
open Go.ChangeShapes Go.WideShapes Go.ChangeAt Go.RowKit
abbrev tab : List Int := [48, 49, 50, 51, 52, 53, 54, 55, 56, 57, 97, 98, 99, 100, 101, 102]
theorem tab_hd (d : Nat) (h : d < 16) : tab.getD d 0 = ((H0.hd d).toNat : Int) := by
 have : ∀ d : Fin 16, tab.getD d.val 0 = ((H0.hd d.val).toNat : Int) := by decide
 exact this ⟨d, h⟩
theorem gTab : Tryz.prog.globalNamed "loop.example/g00278/impl.hexDigits" = some 1 := by kernel_rfl
theorem info8 : (Tryz.prog.info? 5).map (fun i => (i.zero, i.size, i.bytes)) = some (some (.int .u8 0), 1, 1) := by kernel_rfl
def Own (w w' : World) (s : ByteArray) (k : Nat) : Prop :=
 Below w.heap.size w w' ∧ w.heap.size < w'.heap.size ∧ B0.Holds w' w.heap.size 0 (H0.hexL (s.data.toList.take k)) ∧
  ∀ j, j < 2 * s.size → (w'.cell? ⟨w.heap.size, j, none⟩).isSome = true ∧ w'.frozen? ⟨w.heap.size, j, none⟩ = false
theorem own_start (w : World) (M : Array Value) (s : ByteArray) (hM : M.size = 2 * s.size) : Own w (w.alloc (.cells M 5)) s 0 := by
 refine ⟨(Below.refl _ _).alloc (Nat.le_refl _) _, ?_, fun j hj => by simp [H0.hexL] at hj, fun j hj => ⟨?_, ?_⟩⟩
 ·show w.heap.size < (w.heap.push _).size
  simp
 ·rw [World.cell?_alloc_mark, Array.getElem?_eq_getElem (by omega)]
  rfl
 ·have := World.frozen?_alloc_mark w M 5 0 0 j
  rw [this]
  simp
theorem own_end (w w' : World) (s : ByteArray) (h : Own w w' s s.size) :
  (convert 22 9 (.slice (some ⟨w.heap.size, 0, none⟩) (2 * s.size) (2 * s.size))).run Tryz.prog w' = .ok (.string (hex s)) w' := by
 have := B0.conv_back (P := Tryz.prog) w' 22 9 5 w.heap.size 0 (2 * s.size) _ Tryz.underlying22 Tryz.underlying5 Tryz.underlying9 h.2.2.1 (2 * s.size) (H0.take_len s s.size (Nat.le_refl _)).symm
 rw [H0.take_all] at this
 exact this
theorem new_cells (wr : World) (x y : Int) : ∀ j u, [Value.int .u8 x, Value.int .u8 y][j]? = some u → ((wr.alloc (.cells #[Value.int .u8 x, Value.int .u8 y] 5)).drew).cell? ((⟨wr.heap.size, 0, none⟩ : Addr).add j) = some u := by
 intro j u h
 show (wr.alloc (.cells #[Value.int .u8 x, Value.int .u8 y] 5)).cell? _ = _
 rw [B0.add_off, Nat.zero_add, World.cell?_alloc_mark]
 simpa using h
theorem new_one (x y : Int) : ∀ u ∈ [Value.int .u8 x, Value.int .u8 y], u.oneCell' = true := by
 intro u h
 simp at h
 rcases h with rfl | rfl <;> rfl
theorem spare_cells {w wr : World} {s : ByteArray} {k : Nat} (h : Own w wr s k) (hlt : k < s.size) (x y : Int) : ∀ j, j < [Value.int .u8 x, Value.int .u8 y].length →
  (((wr.alloc (.cells #[Value.int .u8 x, Value.int .u8 y] 5)).drew).cell? ⟨w.heap.size, 0 + 2 * k * 1 + j, none⟩).isSome = true ∧ ((wr.alloc (.cells #[Value.int .u8 x, Value.int .u8 y] 5)).drew).frozen? ⟨w.heap.size, 0 + 2 * k * 1 + j, none⟩ = false := by
 intro j hj
 have hj' : j < 2 := hj
 have hb : Below wr.heap.size wr (wr.alloc (.cells #[Value.int .u8 x, Value.int .u8 y] 5)) := (Below.refl _ _).alloc (Nat.le_refl _) _
 have := h.2.2.2 (0 + 2 * k * 1 + j) (by omega)
 exact ⟨(congrArg Option.isSome (hb.cell (p := ⟨w.heap.size, 0 + 2 * k * 1 + j, none⟩) h.2.1)).trans this.1, (hb.frozen (p := ⟨w.heap.size, 0 + 2 * k * 1 + j, none⟩) h.2.1).trans this.2⟩
theorem own_step {w wr : World} {s : ByteArray} {k : Nat} (h : Own w wr s k) (hlt : k < s.size) :
  Own w (((wr.alloc (.cells #[Value.int .u8 ((H0.hd (s[k].toNat / 16)).toNat : Int), Value.int .u8 ((H0.hd (s[k].toNat % 16)).toNat : Int)] 5)).drew).setCells w.heap.size (2 * k) [Value.int .u8 ((H0.hd (s[k].toNat / 16)).toNat : Int), Value.int .u8 ((H0.hd (s[k].toNat % 16)).toNat : Int)]) s (k + 1) := by
 obtain ⟨hb, hz, hH, hS⟩ := h
 have hL := H0.take_len s k (by omega)
 generalize hV : (((wr.alloc (.cells #[Value.int .u8 ((H0.hd (s[k].toNat / 16)).toNat : Int), Value.int .u8 ((H0.hd (s[k].toNat % 16)).toNat : Int)] 5)).drew)) = V
 have hV1 : Below wr.heap.size wr V := by rw [← hV]; exact ((Below.refl _ _).alloc (Nat.le_refl _) _).drew
 have hVc : ∀ j, V.cell? ⟨w.heap.size, j, none⟩ = wr.cell? ⟨w.heap.size, j, none⟩ := fun j => hV1.cell (p := ⟨w.heap.size, j, none⟩) hz
 have hVf : ∀ j, V.frozen? ⟨w.heap.size, j, none⟩ = wr.frozen? ⟨w.heap.size, j, none⟩ := fun j => hV1.frozen (p := ⟨w.heap.size, j, none⟩) hz
 have hin : ∀ j, j < 2 → (V.cell? ⟨w.heap.size, 2 * k + j, none⟩).isSome = true := fun j hj => by rw [hVc]; exact (hS _ (by omega)).1
 refine ⟨?_, ?_, ?_, ?_⟩
 ·exact B0.below_setCells (Nat.le_refl _) _ _ _ (hb.trans (hV1.mono hb.size))
 ·rw [B0.size_setCells]
  have := hV1.size
  omega
 ·rw [H0.take_snoc s k hlt, H0.hexL_snoc]
  intro j hj
  have hj' : j < 2 * k + 2 := by simp [hL] at hj; omega
  rw [Nat.zero_add]
  by_cases h1 : j < 2 * k
  ·rw [World.cell?_setCells_out _ _ _ _ _ (fun _ _ => Or.inl h1), hVc]
   have := hH j (by omega)
   rw [Nat.zero_add] at this
   rw [this, List.getElem_append_left (by omega)]
  ·have := World.cell?_setCells_in w.heap.size [Value.int .u8 ((H0.hd (s[k].toNat / 16)).toNat : Int), Value.int .u8 ((H0.hd (s[k].toNat % 16)).toNat : Int)] (2 * k) V hin (j - 2 * k) (by show _ < 2; omega)
   rw [show 2 * k + (j - 2 * k) = j by omega] at this
   rw [this, List.getElem_append_right (by omega)]
   have : j = 2 * k ∨ j = 2 * k + 1 := by omega
   rcases this with rfl | rfl
   ·simp [hL]
   ·simp [hL]
 ·intro j hj
  refine ⟨B0.isSome_setCells _ _ _ _ _ (by rw [hVc]; exact (hS j hj).1), ?_⟩
  rw [World.frozen?_setCells, hVf]
  exact (hS j hj).2
set_option maxHeartbeats 2000000 in
theorem impl_Hex (s : ByteArray) (w : World) (hs : s.size ≤ 70368744177664) (htab : Lib.TabIs Tryz.prog w "loop.example/g00278/impl.hexDigits" .u8 tab) :
  Calls Tryz.prog 110 #[.string s] w fun e w' => e = .returned (.string (hex s)) ∧ Below w.heap.size w w' := by
 obtain ⟨i0, hi, hz0, hz1, hz2⟩ := info_parts info8
 obtain ⟨M, hM⟩ : ∃ M, M = madeCells (Value.int .u8 0).cells ((2 * (s.size : Int)).toNat * i0.size) := ⟨_, rfl⟩
 have hMs : M.size = 2 * s.size := by rw [hM, size_madeCells, hz1]; omega
 have hmk : (Instr.makeSlice 22 (.int .i64 0) (.int .i64 (2 * (s.size : Int)))).run Tryz.prog w = .ok (.slice (some ⟨w.heap.size, 0, none⟩) 0 (2 * s.size)) (w.alloc (.cells M 5)) := by
  have h := run_make (P := Tryz.prog) w 22 5 i0 (.int .u8 0) Tryz.underlying22 hi hz0 .i64 .i64 0 (2 * (s.size : Int)) (by omega) (by omega) (by rw [hz2]; omega) (by omega)
  rw [← hM] at h
  rw [h]
  congr 2
 clear hM
 go_enter Tryz.func110, Tryz.ntmps110
 go_wp2
 go_loopw [3, 4] (fun d i w' => ∃ k : Nat, k ≤ s.size ∧ i = .int .i64 k ∧ d = .slice (some ⟨w.heap.size, 0, none⟩) (2 * k) (2 * s.size) ∧ Own w w' s k) (fun _ i _ => s.size - (intOf i).toNat)
 case atStart => exact ⟨0, Nat.zero_le _, rfl, rfl, own_start w M s hMs⟩
 case round =>
  obtain ⟨k, hk, rfl, rfl, hown⟩ := hrel
  by_cases hlt : k < s.size
  ·have hc := s[k].toNat_lt
   have e1 : (0 : Int) ≤ (k : Int) := by omega
   have e2 : (k : Int) < (s.size : Int) := by omega
   have ht2 := L0.tab_below htab hown.1
   have c1 := ht2.cell gTab (s[k].toNat / 16) (by show _ < 16; omega)
   have c2 := ht2.cell gTab (s[k].toNat % 16) (by show _ < 16; omega)
   rw [tab_hd _ (by omega)] at c1 c2
   have hlen : Hid (wr.heap.size ≠ w.heap.size) := show _ ≠ _ by have := hown.2.1; omega
   have e3 : (0 : Int) ≤ (s[k].toNat : Int) / 16 := by omega
   have e4 : (s[k].toNat : Int) / 16 < 16 := by omega
   have e5 : (0 : Int) ≤ (s[k].toNat : Int) % 16 := by omega
   have e6 : (s[k].toNat : Int) % 16 < 16 := by omega
   have e7 : ((s[k].toNat : Int) / 16).toNat = s[k].toNat / 16 := by omega
   have e8 : ((s[k].toNat : Int) % 16).toNat = s[k].toNat % 16 := by omega
   have e9 : bits .and .u8 (s[k].toNat : Int) 15 = (s[k].toNat : Int) % 16 := u8_and15 _ (by omega) (by omega)
   obtain ⟨W2, hW2'⟩ : ∃ W2, W2 = ((wr.alloc (.cells #[Value.int .u8 ((H0.hd (s[k].toNat / 16)).toNat : Int), Value.int .u8 ((H0.hd (s[k].toNat % 16)).toNat : Int)] 5)).drew).setCells w.heap.size (2 * k) [Value.int .u8 ((H0.hd (s[k].toNat / 16)).toNat : Int), Value.int .u8 ((H0.hd (s[k].toNat % 16)).toNat : Int)] := ⟨_, rfl⟩
   have ho2 : Hid (Own w W2 s (k + 1)) := show Own w W2 s (k + 1) by rw [hW2']; exact own_step hown hlt
   have hW2 : Hid (W2 = ((wr.alloc (.cells #[Value.int .u8 ((H0.hd (s[k].toNat / 16)).toNat : Int), Value.int .u8 ((H0.hd (s[k].toNat % 16)).toNat : Int)] 5)).drew).setCells w.heap.size (2 * k) [Value.int .u8 ((H0.hd (s[k].toNat / 16)).toNat : Int), Value.int .u8 ((H0.hd (s[k].toNat % 16)).toNat : Int)]) := hW2'
   clear hW2'
   go_wp2
   go_region_law (refine step_append_room rfl (.tmp 15) (.tmp 28) 22 rfl 5 i0 1 Tryz.underlying22 hi hz1 w.heap.size 0 (2 * k) (2 * s.size) (by simp [Act.eval]) ⟨wr.heap.size, 0, none⟩ 2 2 [.int .u8 ((H0.hd (s[k].toNat / 16)).toNat : Int), .int .u8 ((H0.hd (s[k].toNat % 16)).toNat : Int)] (by simp [Act.eval]) rfl (new_cells _ _ _) (new_one _ _) (by omega) (spare_cells hown hlt _ _) ?_)
   all_goals
    rw [← hW2.out]
    go_wp2
    go_roundw
    case rel => exact ⟨k + 1, by omega, by go_num, by rw [show 2 * (k + 1) = 2 * k + 2 by omega], ho2.out⟩
    case measure => simp [intOf]; omega
  ·obtain rfl : k = s.size := by omega
   have hcv := own_end w wr s hown
   go_wp2
   go_ret
   exact ⟨rfl, hown.1⟩
end Go.Proofs.YtpkmeknniajahaaGreatDoor.H1
namespace Go.Proofs.YtpkmeknniajahaaGreatDoor.D0
open Go
def dd (u : Nat) : List UInt8 := if u = 0 then [] else Lib.decDigits u
theorem dd_step (u : Nat) (h : u ≠ 0) : dd u = dd (u / 10) ++ [UInt8.ofNat (48 + u % 10)] := by
 unfold dd
 rw [if_neg h]
 by_cases h1 : u < 10
 ·rw [Lib.decDigits_one h1, if_pos (by omega), Nat.mod_eq_of_lt h1]
  rfl
 ·rw [Lib.decDigits, dif_neg h1, if_neg (by omega)]
theorem dd_length (u : Nat) (h : u ≤ 9223372036854775808) : (dd u).length ≤ 21 := by
 unfold dd
 split
 ·simp
 ·have := Lib.itoa_length_le (-(u : Int)) (by omega) (by omega)
  rw [Lib.itoa_neg u (by omega)] at this
  simp at this
  omega
theorem digit_piece (d : Nat) (h : d < 10) : (⟨#[48, 49, 50, 51, 52, 53, 54, 55, 56, 57]⟩ : ByteArray).extract d (d + 1) = ⟨#[UInt8.ofNat (48 + d)]⟩ := by
 match d, h with
 | 0, _ => rfl
 | 1, _ => rfl
 | 2, _ => rfl
 | 3, _ => rfl
 | 4, _ => rfl
 | 5, _ => rfl
 | 6, _ => rfl
 | 7, _ => rfl
 | 8, _ => rfl
 | 9, _ => rfl
theorem round_eq (u v : Nat) (out : List UInt8) (h : u ≠ 0) (e : dd u ++ out = dd v) : dd (u / 10) ++ (UInt8.ofNat (48 + u % 10) :: out) = dd v := by
 rw [← e, dd_step u h]
 simp
def dig (x : Int) : ByteArray := ⟨#[UInt8.ofNat (48 + x.toNat)]⟩
theorem dig_size (x : Int) : (dig x).size = 1 := rfl
theorem dig_cons (x : Int) (out : List UInt8) : dig x ++ ⟨out.toArray⟩ = ⟨(UInt8.ofNat (48 + x.toNat) :: out).toArray⟩ := by
 apply ByteArray.ext
 apply Array.toList_inj.1
 simp [dig]
theorem ret_minus (l : List UInt8) : Ending.returned (.string (⟨#[45]⟩ ++ ⟨l.toArray⟩)) = Ending.returned (.string ⟨(45 :: l).toArray⟩) := by
 congr 2
theorem itoa_pos (u : Nat) (h : u ≠ 0) : Lib.itoa (u : Int) = dd u := by rw [Lib.itoa_nonneg, dd, if_neg h]
theorem itoa_neg (u : Nat) (h : u ≠ 0) : Lib.itoa (-(u : Int)) = 45 :: dd u := by rw [Lib.itoa_neg u (by omega), dd, if_neg h]
theorem dig_slice {P : Program} (t : TypeId) (ht : P.underlying t = some .string) (x : Int) (h0 : 0 ≤ x) (h1 : x < 10) (W : World) :
  (Instr.slice t (.string ⟨#[48, 49, 50, 51, 52, 53, 54, 55, 56, 57]⟩) (some (.int .i64 x)) (some (.int .i64 (x + 1))) none).run P W = .ok (.string (dig x)) W := by
 rw [run_slice_string W t _ .i64 .i64 x (x + 1) ht h0 (by omega) (by show x + 1 ≤ ((10 : Nat) : Int); omega)]
 obtain ⟨d, rfl⟩ : ∃ d : Nat, x = (d : Int) := ⟨x.toNat, by omega⟩
 rw [show ((d : Int) + 1).toNat = d + 1 by omega, show ((d : Int)).toNat = d by omega, digit_piece d (by omega)]
 rfl
end Go.Proofs.YtpkmeknniajahaaGreatDoor.D0
