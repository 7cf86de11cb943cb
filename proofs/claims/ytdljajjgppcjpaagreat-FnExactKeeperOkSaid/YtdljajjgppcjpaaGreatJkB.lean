/- Joined texts: plain facts and contracts, as each part says. -/
import Derived.Shelf.LaysM
import Derived.Shelf.Strconv.Clone
import Derived.Shelf.Sort.Plain
import Derived.Shelf.Slices.Turned
import Derived.Ground.Names2Prog
import Derived.Shelf.Slices.Clone
import Derived.Shelf.Slices.CompactI
import Derived.Test.YtdljajjgppcjpaaGreatProg
import Derived.Test.YtdljajjgppcjpaaGreatJkA
import Derived.Deep.QuietTactic
import Derived.BigQuiet

/- The contracts of the library functions that the laws of this seat call, laid over its translation. -/
namespace Go.Proofs
open Go.Shelf
def Tryz.laysM316_ren : Go.Shelf.Ren := ⟨fun | 316 => 74 | n => n, fun | 9 => 9 | 3 => 3 | 4 => 4 | 37 => 22 | 0 => 0 | 127 => 153 | 5 => 5 | n => n, fun | n => n⟩
theorem Tryz.laysM316 : Go.Proofs.LaysM.n316 Tryz.prog Tryz.laysM316_ren := {
  mixed := by kernel_rfl
  f316 := Tryz.func74.trans (congrArg some (by kernel_rfl))
  t0 := Tryz.underlying0
  a0 := Tryz.isAgg0
  z0 := Tryz.sizeOf0
  v0 := Tryz.zeroValue0
  t3 := Tryz.underlying3
  a3 := Tryz.isAgg3
  z3 := Tryz.sizeOf3
  v3 := Tryz.zeroValue3
  t4 := Tryz.underlying4
  a4 := Tryz.isAgg4
  z4 := Tryz.sizeOf4
  v4 := Tryz.zeroValue4
  t9 := Tryz.underlying9
  a9 := Tryz.isAgg9
  z9 := Tryz.sizeOf9
  v9 := Tryz.zeroValue9
  t37 := Tryz.underlying22
  a37 := Tryz.isAgg22
  z37 := Tryz.sizeOf22
  v37 := Tryz.zeroValue22
  t127 := Tryz.underlying153
  a127 := Tryz.isAgg153
  z127 := Tryz.sizeOf153
  v127 := Tryz.zeroValue153
  t5 := Tryz.underlying5
  a5 := Tryz.isAgg5
  z5 := Tryz.sizeOf5
  v5 := Tryz.zeroValue5
  i0 := by kernel_rfl
  i3 := by kernel_rfl
  i4 := by kernel_rfl
  i5 := by kernel_rfl
  i9 := by kernel_rfl
  i37 := by kernel_rfl
  i127 := by kernel_rfl }
open Go.RowKit in
theorem Tryz.stringslite_Clone (s : ByteArray) (w : World) (hlim : s.size ≤ 281474976710656) :
    Calls Tryz.prog 74 #[.string s] w fun e w' => e = .returned (.string s) ∧ Below w.heap.size w w' := Any.stringslite_Clone Tryz.laysM316 s w hlim
def Tryz.lays189_ren : Go.Shelf.Ren := ⟨fun | 189 => 105 | 125 => 132 | 257 => 131 | 128 => 153 | 129 => 154 | 294 => 144 | 295 => 145 | 296 => 146 | 297 => 147 | 298 => 148 | 299 => 149 | 216 => 150 | 300 => 151 | 301 => 152 | 328 => 169 | 329 => 170 | 330 => 171 | 331 => 172 | 332 => 173 | 215 => 174 | 343 => 178 | n => n, fun | 28 => 24 | 3 => 3 | 46 => 174 | 0 => 0 | 51 => 198 | 53 => 200 | 4 => 4 | 183 => 193 | 182 => 192 | 131 => 189 | 5 => 5 | 9 => 9 | 218 => 218 | 222 => 222 | 228 => 228 | 229 => 229 | n => n, fun | n => n⟩
theorem Tryz.lays189 : Go.Proofs.Lays.n189 Tryz.prog Tryz.lays189_ren := {
  mixed := by kernel_rfl
  f125 := Tryz.func132.trans (congrArg some (by kernel_rfl))
  f128 := Tryz.func153.trans (congrArg some (by kernel_rfl))
  f129 := Tryz.func154.trans (congrArg some (by kernel_rfl))
  f189 := Tryz.func105.trans (congrArg some (by kernel_rfl))
  f215 := Tryz.func174.trans (congrArg some (by kernel_rfl))
  f216 := Tryz.func150.trans (congrArg some (by kernel_rfl))
  f257 := Tryz.func131.trans (congrArg some (by kernel_rfl))
  f294 := Tryz.func144.trans (congrArg some (by kernel_rfl))
  f295 := Tryz.func145.trans (congrArg some (by kernel_rfl))
  f296 := Tryz.func146.trans (congrArg some (by kernel_rfl))
  f297 := Tryz.func147.trans (congrArg some (by kernel_rfl))
  f298 := Tryz.func148.trans (congrArg some (by kernel_rfl))
  f299 := Tryz.func149.trans (congrArg some (by kernel_rfl))
  f300 := Tryz.func151.trans (congrArg some (by kernel_rfl))
  f301 := Tryz.func152.trans (congrArg some (by kernel_rfl))
  f328 := Tryz.func169.trans (congrArg some (by kernel_rfl))
  f329 := Tryz.func170.trans (congrArg some (by kernel_rfl))
  f330 := Tryz.func171.trans (congrArg some (by kernel_rfl))
  f331 := Tryz.func172.trans (congrArg some (by kernel_rfl))
  f332 := Tryz.func173.trans (congrArg some (by kernel_rfl))
  f343 := Tryz.func178.trans (congrArg some (by kernel_rfl))
  t0 := Tryz.underlying0
  a0 := Tryz.isAgg0
  z0 := Tryz.sizeOf0
  v0 := Tryz.zeroValue0
  t3 := Tryz.underlying3
  a3 := Tryz.isAgg3
  z3 := Tryz.sizeOf3
  v3 := Tryz.zeroValue3
  t4 := Tryz.underlying4
  a4 := Tryz.isAgg4
  z4 := Tryz.sizeOf4
  v4 := Tryz.zeroValue4
  t5 := Tryz.underlying5
  a5 := Tryz.isAgg5
  z5 := Tryz.sizeOf5
  v5 := Tryz.zeroValue5
  t9 := Tryz.underlying9
  a9 := Tryz.isAgg9
  z9 := Tryz.sizeOf9
  v9 := Tryz.zeroValue9
  t28 := Tryz.underlying24
  a28 := Tryz.isAgg24
  z28 := Tryz.sizeOf24
  v28 := Tryz.zeroValue24
  t46 := Tryz.underlying174
  a46 := Tryz.isAgg174
  z46 := Tryz.sizeOf174
  v46 := Tryz.zeroValue174
  t51 := Tryz.underlying198
  a51 := Tryz.isAgg198
  z51 := Tryz.sizeOf198
  v51 := Tryz.zeroValue198
  t53 := Tryz.underlying200
  a53 := Tryz.isAgg200
  z53 := Tryz.sizeOf200
  v53 := Tryz.zeroValue200
  t131 := Tryz.underlying189
  a131 := Tryz.isAgg189
  z131 := Tryz.sizeOf189
  v131 := Tryz.zeroValue189
  t182 := Tryz.underlying192
  a182 := Tryz.isAgg192
  z182 := Tryz.sizeOf192
  v182 := Tryz.zeroValue192
  t183 := Tryz.underlying193
  a183 := Tryz.isAgg193
  z183 := Tryz.sizeOf193
  v183 := Tryz.zeroValue193
  t218 := Tryz.underlying218
  a218 := Tryz.isAgg218
  z218 := Tryz.sizeOf218
  v218 := Tryz.zeroValue218
  t222 := Tryz.underlying222
  a222 := Tryz.isAgg222
  z222 := Tryz.sizeOf222
  v222 := Tryz.zeroValue222
  t228 := Tryz.underlying228
  a228 := Tryz.isAgg228
  z228 := Tryz.sizeOf228
  v228 := Tryz.zeroValue228
  t229 := Tryz.underlying229
  a229 := Tryz.isAgg229
  z229 := Tryz.sizeOf229
  v229 := Tryz.zeroValue229 }
open Go.Sort Go.RowKit in
theorem Tryz.slices_Sort_int (blk off cap : Nat) (zs : List Int) (w : World) (hH : Holds (Value.int .i64) w blk off zs.toArray) (hblk : blk < w.heap.size) (hsz : zs.length < 4611686018427387904) :
    Calls Tryz.prog 105 #[.slice (some ⟨blk, off, none⟩) zs.length cap] w fun e w' =>
      e = .returned (.tuple #[]) ∧ ∃ n os, w' = grow (putRow (Value.int .i64) (Sort.ahead w n) blk off (zs.mergeSort fun x y => decide (x ≤ y)).toArray) os := Any.slices_Sort_int Tryz.lays189 blk off cap zs w hH hblk hsz
def Tryz.lays108_ren : Go.Shelf.Ren := ⟨fun | 108 => 143 | n => n, fun | 28 => 24 | 3 => 3 | 0 => 0 | 4 => 4 | n => n, fun | n => n⟩
theorem Tryz.lays108 : Go.Proofs.Lays.n108 Tryz.prog Tryz.lays108_ren := {
  mixed := by kernel_rfl
  f108 := Tryz.func143.trans (congrArg some (by kernel_rfl))
  t0 := Tryz.underlying0
  a0 := Tryz.isAgg0
  z0 := Tryz.sizeOf0
  v0 := Tryz.zeroValue0
  t3 := Tryz.underlying3
  a3 := Tryz.isAgg3
  z3 := Tryz.sizeOf3
  v3 := Tryz.zeroValue3
  t4 := Tryz.underlying4
  a4 := Tryz.isAgg4
  z4 := Tryz.sizeOf4
  v4 := Tryz.zeroValue4
  t28 := Tryz.underlying24
  a28 := Tryz.isAgg24
  z28 := Tryz.sizeOf24
  v28 := Tryz.zeroValue24 }
open Go.Lib in
theorem Tryz.slices_Index_int (b off n c : Nat) (zs : List Int) (x : Int) (w : World) (hz : n ≤ zs.length) (hbig : n ≤ 9223372036854775807) (hc : ∀ j, j < zs.length → w.cell? ⟨b, off + j, none⟩ = some (.int .i64 (zs.getD j 0))) :
    Calls Tryz.prog 143 #[.slice (some ⟨b, off, none⟩) n c, .int .i64 x] w fun e w' => e = .returned (.int .i64 (Lib.idxOf (zs.take n) x)) ∧ w' = w := Any.slices_Index_int Tryz.lays108 b off n c zs x w hz hbig hc
open Go.Lib in
theorem Tryz.slices_Index_int_empty (a : Option Addr) (c : Nat) (x : Int) (w : World) :
    Calls Tryz.prog 143 #[.slice a 0 c, .int .i64 x] w fun e w' => e = .returned (.int .i64 (Lib.idxOf [] x)) ∧ w' = w := Any.slices_Index_int_empty Tryz.lays108 a c x w
def Tryz.lays107_ren : Go.Shelf.Ren := ⟨fun | 107 => 130 | 108 => 143 | n => n, fun | 28 => 24 | 3 => 3 | 4 => 4 | 0 => 0 | n => n, fun | n => n⟩
theorem Tryz.lays107 : Go.Proofs.Lays.n107 Tryz.prog Tryz.lays107_ren := {
  mixed := by kernel_rfl
  f107 := Tryz.func130.trans (congrArg some (by kernel_rfl))
  f108 := Tryz.func143.trans (congrArg some (by kernel_rfl))
  t0 := Tryz.underlying0
  a0 := Tryz.isAgg0
  z0 := Tryz.sizeOf0
  v0 := Tryz.zeroValue0
  t3 := Tryz.underlying3
  a3 := Tryz.isAgg3
  z3 := Tryz.sizeOf3
  v3 := Tryz.zeroValue3
  t4 := Tryz.underlying4
  a4 := Tryz.isAgg4
  z4 := Tryz.sizeOf4
  v4 := Tryz.zeroValue4
  t28 := Tryz.underlying24
  a28 := Tryz.isAgg24
  z28 := Tryz.sizeOf24
  v28 := Tryz.zeroValue24 }
open Go.Lib in
theorem Tryz.slices_Contains_int (b off n c : Nat) (zs : List Int) (x : Int) (w : World) (hz : n ≤ zs.length) (hbig : n ≤ 9223372036854775807) (hc : ∀ j, j < zs.length → w.cell? ⟨b, off + j, none⟩ = some (.int .i64 (zs.getD j 0))) :
    Calls Tryz.prog 130 #[.slice (some ⟨b, off, none⟩) n c, .int .i64 x] w fun e w' => e = .returned (.bool ((zs.take n).contains x)) ∧ w' = w := Any.slices_Contains_int Tryz.lays107 b off n c zs x w hz hbig hc
open Go.Lib in
theorem Tryz.slices_Contains_int_empty (a : Option Addr) (c : Nat) (x : Int) (w : World) :
    Calls Tryz.prog 130 #[.slice a 0 c, .int .i64 x] w fun e w' => e = .returned (.bool false) ∧ w' = w := Any.slices_Contains_int_empty Tryz.lays107 a c x w
def Tryz.laysNm215_ren : Go.Shelf.Ren := ⟨fun | 15 => 104 | n => n, fun | 22 => 24 | 3 => 3 | 4 => 4 | n => n, fun | n => n⟩
theorem Tryz.laysNm215 : Go.Proofs.Lays2.n15 Tryz.prog Tryz.laysNm215_ren := {
  mixed := by kernel_rfl
  f15 := Tryz.func104.trans (congrArg some (by kernel_rfl))
  t3 := Tryz.underlying3
  a3 := Tryz.isAgg3
  z3 := Tryz.sizeOf3
  v3 := Tryz.zeroValue3
  t4 := Tryz.underlying4
  a4 := Tryz.isAgg4
  z4 := Tryz.sizeOf4
  v4 := Tryz.zeroValue4
  t22 := Tryz.underlying24
  a22 := Tryz.isAgg24
  z22 := Tryz.sizeOf24
  v22 := Tryz.zeroValue24
  i3 := by kernel_rfl }
open Go.RowKit Go.Lib in
theorem Tryz.slices_Clone_int (b off n c : Nat) (zs : List Int) (w : World) (hz : n ≤ zs.length) (hbig : n * 8 ≤ 140737488355328) (hc : ∀ j, j < zs.length → w.cell? ⟨b, off + j, none⟩ = some (.int .i64 (zs.getD j 0))) :
    Calls Tryz.prog 104 #[.slice (some ⟨b, off, none⟩) n c] w fun e w' => ∃ v', e = .returned v' ∧ w'.ownsRow w.heap.size 3 1 v' n ((zs.take n).map (Value.int .i64)) ∧ v' ≠ .slice none 0 0 ∧ Below w.heap.size w w' := Any.slices_Clone_int Tryz.laysNm215 b off n c zs w hz hbig hc
open Go.RowKit Go.Lib in
theorem Tryz.slices_Clone_int_nil (n c : Nat) (w : World) :
    Calls Tryz.prog 104 #[.slice none n c] w fun e w' => e = .returned (.slice none 0 0) ∧ w' = w := Any.slices_Clone_int_nil Tryz.laysNm215 n c w
open Go.RowKit Go.Lib in
theorem Tryz.slices_Clone_int_zero (a : Addr) (c : Nat) (w : World) :
    Calls Tryz.prog 104 #[.slice (some a) 0 c] w fun e w' => ∃ v', e = .returned v' ∧ w'.ownsRow w.heap.size 3 1 v' 0 [] ∧ v' ≠ .slice none 0 0 ∧ Below w.heap.size w w' := Any.slices_Clone_int_zero Tryz.laysNm215 a c w
def Tryz.laysNm220_ren : Go.Shelf.Ren := ⟨fun | 20 => 141 | n => n, fun | 22 => 24 | 3 => 3 | 4 => 4 | 0 => 0 | n => n, fun | n => n⟩
theorem Tryz.laysNm220 : Go.Proofs.Lays2.n20 Tryz.prog Tryz.laysNm220_ren := {
  mixed := by kernel_rfl
  f20 := Tryz.func141.trans (congrArg some (by kernel_rfl))
  t0 := Tryz.underlying0
  a0 := Tryz.isAgg0
  z0 := Tryz.sizeOf0
  v0 := Tryz.zeroValue0
  t3 := Tryz.underlying3
  a3 := Tryz.isAgg3
  z3 := Tryz.sizeOf3
  v3 := Tryz.zeroValue3
  t4 := Tryz.underlying4
  a4 := Tryz.isAgg4
  z4 := Tryz.sizeOf4
  v4 := Tryz.zeroValue4
  t22 := Tryz.underlying24
  a22 := Tryz.isAgg24
  z22 := Tryz.sizeOf24
  v22 := Tryz.zeroValue24
  i3 := by kernel_rfl }
open Go.RowKit Go.Lib Go.Sort in
theorem Tryz.slices_Compact_int_arr (blk off cap : Nat) (d : Array Int) (w : World) (hH : Holds encI w blk off d) (hsz : d.size ≤ 9223372036854775807) (hcap : d.size ≤ cap) :
    Calls Tryz.prog 141 #[.slice (some ⟨blk, off, none⟩) d.size cap] w fun e w' => e = .returned (.slice (some ⟨blk, off, none⟩) (compactUpTo d d.size).length cap) ∧ ∃ q, w' = putRow encI (Sort.ahead w q) blk off (compactUpTo d d.size ++ List.replicate (d.size - (compactUpTo d d.size).length) 0).toArray := Any.slices_Compact_int_arr Tryz.laysNm220 blk off cap d w hH hsz hcap
open Go.RowKit Go.Lib Go.Sort in
theorem Tryz.slices_Compact_int (blk off cap : Nat) (zs : List Int) (w : World) (hH : Holds (Value.int .i64) w blk off zs.toArray) (hsz : zs.length ≤ 9223372036854775807) (hcap : zs.length ≤ cap) :
    Calls Tryz.prog 141 #[.slice (some ⟨blk, off, none⟩) zs.length cap] w fun e w' => e = .returned (.slice (some ⟨blk, off, none⟩) (Lib.compact zs).length cap) ∧ ∃ q, w' = putRow (Value.int .i64) (Sort.ahead w q) blk off (Lib.compact zs ++ List.replicate (zs.length - (Lib.compact zs).length) 0).toArray := Any.slices_Compact_int Tryz.laysNm220 blk off cap zs w hH hsz hcap
open Go.RowKit Go.Lib Go.Sort in
theorem Tryz.slices_Compact_int_empty (a : Option Addr) (cap : Nat) (w : World) :
    Calls Tryz.prog 141 #[.slice a 0 cap] w fun e w' => e = .returned (.slice a 0 cap) ∧ w' = w := Any.slices_Compact_int_empty Tryz.laysNm220 a cap w
end Go.Proofs

/- Contracts of strings.Clone and impl.Part, as the given laws call them. -/
namespace Go.Proofs.YtdljajjgppcjpaaGreat.B2
open Go.ChangeShapes Go.WideShapes Go.ChangeAt Go.RowKit
set_option linter.unusedVariables false

theorem clone_any (s : ByteArray) (w : World) (hs : s.size ≤ 281474976710656) :
    Calls Tryz.prog 25 #[.string s] w fun e w' => e = .returned (.string s) ∧ Below w.heap.size w w' := by
  go_enter Tryz.func25, Tryz.ntmps25
  go_wp2_with (go_at_call 74; refine (Tryz.stringslite_Clone _ _ hs).mono ?_; rintro e w' ⟨rfl, hb⟩)
  go_ret
  exact ⟨rfl, hb⟩

theorem part_size (s : ByteArray) (i n : Int) : (part s i n).size ≤ s.size := by
  unfold part
  split
  · simp only [ByteArray.size_extract]; omega
  · exact Nat.zero_le _

theorem impl_Part (s : ByteArray) (i n : Int) (w : World) (hs : s.size ≤ 281474976710656) :
    Calls Tryz.prog 17 #[.string s, .int .i64 i, .int .i64 n] w fun e w' => e = .returned (.string (part s i n)) ∧ Below w.heap.size w w' := by
  have hs' : s.size ≤ maxLen := by unfold maxLen; omega
  have hz := part_size s i n
  by_cases h : lies s.size i n = true
  · have e : part s i n = s.extract i.toNat (i + n).toNat := by rw [part, h]; rfl
    rw [e] at hz ⊢
    obtain ⟨h1, h2, h3⟩ := lies_true h
    have h5 : i ≤ i + n := by omega
    have h6 : i + n ≤ (s.size : Int) := by omega
    go_enter Tryz.func17, Tryz.ntmps17
    go_wp2_with (first | (go_at_call 45; refine (liesIn_any _ _ _ _ hs').mono ?_; rintro e w' ⟨rfl, rfl⟩) | (go_at_call 25; refine (clone_any _ _ (by omega)).mono ?_; rintro e w' ⟨rfl, hb⟩))
    go_ret
    exact ⟨rfl, hb⟩
  · have h' : lies s.size i n = false := by simpa using h
    have e : part s i n = ⟨#[]⟩ := by rw [part, h']; rfl
    rw [e]
    go_enter Tryz.func17, Tryz.ntmps17
    go_wp2_with (go_at_call 45; refine (liesIn_any _ _ _ _ hs').mono ?_; rintro e w' ⟨rfl, rfl⟩)
    go_ret
    exact ⟨rfl, Below.refl _ _⟩
end Go.Proofs.YtdljajjgppcjpaaGreat.B2

/- The contract of spec.Part, as the given laws call it. -/
namespace Go.Proofs.YtdljajjgppcjpaaGreat.B2
open Go.ChangeShapes Go.WideShapes Go.ChangeAt Go.RowKit
set_option linter.unusedVariables false

set_option maxRecDepth 4000 in
theorem spec_Part (s : ByteArray) (i n : Int) (w : World) (hs : s.size ≤ maxLen) (wi : (Lit.int .i64 i).wf = true) (wn : (Lit.int .i64 n).wf = true) :
    Calls Tryz.prog 43 #[.string s, .int .i64 i, .int .i64 n] w fun e w' => e = .returned (.string (part s i n)) ∧ w' = w := by
  unfold maxLen at hs
  by_cases h1 : i < 0
  · have e : part s i n = ⟨#[]⟩ := by rw [part, show lies s.size i n = false from decide_eq_false fun h => by omega]; rfl
    rw [e]
    go_enter Tryz.func43, Tryz.ntmps43
    go_wp2
    go_ret
    exact ⟨rfl, rfl⟩
  · by_cases h2 : n < 0
    · have e : part s i n = ⟨#[]⟩ := by rw [part, show lies s.size i n = false from decide_eq_false fun h => by omega]; rfl
      rw [e]
      go_enter Tryz.func43, Tryz.ntmps43
      go_wp2
      go_ret
      exact ⟨rfl, rfl⟩
    · by_cases h3 : (s.size : Int) < n
      · have e : part s i n = ⟨#[]⟩ := by rw [part, show lies s.size i n = false from decide_eq_false fun h => by omega]; rfl
        rw [e]
        go_enter Tryz.func43, Tryz.ntmps43
        go_wp2
        go_ret
        exact ⟨rfl, rfl⟩
      · by_cases h4 : (s.size : Int) - n < i
        · have e : part s i n = ⟨#[]⟩ := by rw [part, show lies s.size i n = false from decide_eq_false fun h => by omega]; rfl
          rw [e]
          go_enter Tryz.func43, Tryz.ntmps43
          go_wp2
          go_ret
          exact ⟨rfl, rfl⟩
        · have e : part s i n = s.extract i.toNat (i + n).toNat := by rw [part, show lies s.size i n = true from decide_eq_true (by omega)]; rfl
          rw [e]
          have h5 : i ≤ i + n := by omega
          have h6 : i + n ≤ (s.size : Int) := by omega
          go_enter Tryz.func43, Tryz.ntmps43
          go_wp2
          go_ret
          exact ⟨rfl, rfl⟩
end Go.Proofs.YtdljajjgppcjpaaGreat.B2

/- Contracts of spec.GetEntry and impl.GetEntry, as the given laws call them. -/
namespace Go.Proofs.YtdljajjgppcjpaaGreat.E4
open Go.ChangeShapes Go.WideShapes Go.ChangeAt Go.RowKit
set_option linter.unusedVariables false
set_option linter.unusedSimpArgs false
set_option maxRecDepth 10000

/-- What stands in the bytes of an entry. -/
def ino (s : ByteArray) : Int := B1.byteAt s 0
def name (s : ByteArray) : ByteArray := B2.part s 2 (B1.byteAt s 1)

/-- Whether a text is that of an entry. -/
def isE (s : ByteArray) : Bool := decide (s.size = 16) && ((E0.putE (ino s) (name s)).toList == s.toList)

/-- What GetEntry tells. -/
def eIno (s : ByteArray) : Int := if isE s then ino s else 0
def eName (s : ByteArray) : ByteArray := if isE s then name s else ⟨#[]⟩

def getE (s : ByteArray) : Value := .tuple #[.agg #[.int .i64 (eIno s), .string (eName s)], .bool (isE s)]

theorem wf_of (n : Int) (h0 : -9223372036854775808 ≤ n) (h1 : n ≤ 9223372036854775807) : (Lit.int .i64 n).wf = true := by
  simp [Lit.wf, IntKind.min, IntKind.max, IntKind.signed, IntKind.bits]
  omega

theorem byteAt_lt (s : ByteArray) (i : Int) : 0 ≤ B1.byteAt s i ∧ B1.byteAt s i < 256 := by
  unfold B1.byteAt
  split
  · rename_i h
    have := (s[i.toNat]'(by omega)).toNat_lt
    omega
  · omega

theorem getE_no {s : ByteArray} (h : isE s = false) : getE s = .tuple #[.agg #[.int .i64 0, .string ⟨#[]⟩], .bool false] := by simp [getE, eIno, eName, h]
theorem getE_yes {s : ByteArray} (h : isE s = true) : getE s = .tuple #[.agg #[.int .i64 (ino s), .string (name s)], .bool true] := by simp [getE, eIno, eName, h]

/-- The two blocks of GetEntry: the answer's and the entry's own. -/
structure Two (w : World) (B : Nat) (a : Int) (b : ByteArray) (W : World) : Prop where
  n : K0.Blk w.heap.size [.int .i64 0, .string ⟨#[]⟩] W
  m : K0.Blk B [.int .i64 a, .string b] W
  ne : w.heap.size < B
  bel : Below w.heap.size w W

theorem Two.below {w W W' : World} {B : Nat} {a : Int} {b : ByteArray} (h : Two w B a b W) (hb : Below W.heap.size W W') : Two w B a b W' := ⟨h.n.below hb, h.m.below hb, h.ne, h.bel.trans (hb.mono (Nat.le_of_lt h.n.lt))⟩

theorem two_new (w w1 : World) (a : Int) (b : ByteArray) (h : Below (w.alloc (.cells #[.int .i64 0, .string ⟨#[]⟩] 121)).heap.size (w.alloc (.cells #[.int .i64 0, .string ⟨#[]⟩] 121)) w1) :
    Two w w1.heap.size a b (w1.alloc (.cells #[.int .i64 a, .string b] 121)) := by
  have hs := h.size
  simp at hs
  exact ⟨((K0.blk_new [.int .i64 0, .string ⟨#[]⟩] w 121).below h).alloc _, K0.blk_new [.int .i64 a, .string b] w1 121, by omega, (((Below.refl _ _).alloc (Nat.le_refl _) _).trans (h.mono (by simp))).alloc (by omega) _⟩

theorem two_first (w : World) (a : Int) (b : ByteArray) : Two w (w.heap.size + 1) a b ((w.alloc (.cells #[.int .i64 0, .string ⟨#[]⟩] 121)).alloc (.cells #[.int .i64 a, .string b] 121)) := by
  have h := two_new w _ a b (Below.refl _ _)
  simpa using h

theorem ret_val {v u : Value} (h : v = u) : Ending.returned v = .returned u := by rw [h]

set_option maxHeartbeats 1000000 in
theorem spec_GetEntry (s : ByteArray) (w : World) (hs : s.size ≤ 281474976710656) :
    Calls Tryz.prog 86 #[.string s] w fun e w' => e = .returned (getE s) ∧ Below w.heap.size w w' := by
  have hm : s.size ≤ maxLen := by unfold maxLen; omega
  have k0 := byteAt_lt s 0
  have k1 := byteAt_lt s 1
  have hn : (B2.part s 2 (B1.byteAt s 1)).size ≤ 281474976710656 := by have := B2.part_size s 2 (B1.byteAt s 1); omega
  have v2 : (Lit.int .i64 2).wf = true := by decide
  have v1 := wf_of (B1.byteAt s 1) (by omega) (by omega)
  have t1 := two_first w (B1.byteAt s 0) (B2.part s 2 (B1.byteAt s 1))
  by_cases h16 : s.size = 16
  · have g16 : ((s.size : Int) != 16) = false := by simp; omega
    by_cases hP : ((E0.putE (B1.byteAt s 0) (B2.part s 2 (B1.byteAt s 1))).toList == s.toList) = true
    · have HR : Hid (getE s = .tuple #[.agg #[.int .i64 (B1.byteAt s 0), .string (B2.part s 2 (B1.byteAt s 1))], .bool true]) := getE_yes (by rw [isE, ino, name, hP, decide_eq_true h16]; rfl)
      go_enter Tryz.func86, Tryz.ntmps86
      go_wp2_with (first
        | (go_at_call 82; refine (B1.spec_ByteAt _ _ _ hm).mono ?_; rintro e w' ⟨rfl, rfl⟩)
        | (go_at_call 43; refine (B2.spec_Part _ _ _ _ hm v2 v1).mono ?_; rintro e w' ⟨rfl, rfl⟩)
        | (go_at_call 123; refine (E2.spec_PutEntry _ _ _ hn).mono ?_; rintro e w2 ⟨rfl, b2⟩; have t2 := t1.below b2; have c0 := t2.n.c0; have c1 := t2.n.c1; have f0 := t2.n.f0; have f1 := t2.n.f1; have d0 := t2.m.c0; have d1 := t2.m.c1))
      have q := t2.n.put2 (.int .i64 (B1.byteAt s 0)) (.string (B2.part s 2 (B1.byteAt s 1)))
      exact bodyPost_ret (v := .tuple #[.agg #[.int .i64 (B1.byteAt s 0), .string (B2.part s 2 (B1.byteAt s 1))], .bool true]) (by simp [results, Tryz.results86, go_sem, q.c0, q.c1]) rfl
        ⟨ret_val HR.out.symm, (t2.bel.setCell (p := ⟨w.heap.size, 0, none⟩) (Nat.le_refl _) _).setCell (p := ⟨w.heap.size, 1, none⟩) (Nat.le_refl _) _⟩
    · have hP' : ((E0.putE (B1.byteAt s 0) (B2.part s 2 (B1.byteAt s 1))).toList == s.toList) = false := by simpa using hP
      have HR : Hid (getE s = .tuple #[.agg #[.int .i64 0, .string ⟨#[]⟩], .bool false]) := getE_no (by rw [isE, ino, name, hP', Bool.and_false])
      clear hP
      go_enter Tryz.func86, Tryz.ntmps86
      go_wp2_with (first
        | (go_at_call 82; refine (B1.spec_ByteAt _ _ _ hm).mono ?_; rintro e w' ⟨rfl, rfl⟩)
        | (go_at_call 43; refine (B2.spec_Part _ _ _ _ hm v2 v1).mono ?_; rintro e w' ⟨rfl, rfl⟩)
        | (go_at_call 123; refine (E2.spec_PutEntry _ _ _ hn).mono ?_; rintro e w2 ⟨rfl, b2⟩; have t2 := t1.below b2; have c0 := t2.n.c0; have c1 := t2.n.c1; have f0 := t2.n.f0; have f1 := t2.n.f1; have d0 := t2.m.c0; have d1 := t2.m.c1))
      have q := t2.n.put2 (.int .i64 0) (.string ⟨#[]⟩)
      exact bodyPost_ret (v := .tuple #[.agg #[.int .i64 0, .string ⟨#[]⟩], .bool false]) (by simp [results, Tryz.results86, go_sem, q.c0, q.c1]) rfl
        ⟨ret_val HR.out.symm, (t2.bel.setCell (p := ⟨w.heap.size, 0, none⟩) (Nat.le_refl _) _).setCell (p := ⟨w.heap.size, 1, none⟩) (Nat.le_refl _) _⟩
  · have g16 : ((s.size : Int) != 16) = true := by simp; omega
    have HR : Hid (getE s = .tuple #[.agg #[.int .i64 0, .string ⟨#[]⟩], .bool false]) := getE_no (by rw [isE, decide_eq_false h16, Bool.false_and])
    have c0 := t1.n.c0
    have c1 := t1.n.c1
    have q := t1.n.put2 (.int .i64 0) (.string ⟨#[]⟩)
    go_enter Tryz.func86, Tryz.ntmps86
    go_wp2_with (first
      | (go_at_call 82; refine (B1.spec_ByteAt _ _ _ hm).mono ?_; rintro e w' ⟨rfl, rfl⟩)
      | (go_at_call 43; refine (B2.spec_Part _ _ _ _ hm v2 v1).mono ?_; rintro e w' ⟨rfl, rfl⟩))
    refine bodyPost_ret (v := .tuple #[.agg #[.int .i64 0, .string ⟨#[]⟩], .bool false]) (by simp [results, Tryz.results86, go_sem, q.c0, q.c1]) rfl
      ⟨ret_val HR.out.symm, ?_⟩
    go_grown

set_option maxHeartbeats 1000000 in
theorem impl_GetEntry (s : ByteArray) (w : World) (hs : s.size ≤ 281474976710656) :
    Calls Tryz.prog 137 #[.string s] w fun e w' => e = .returned (getE s) ∧ Below w.heap.size w w' := by
  have hm : s.size ≤ maxLen := by unfold maxLen; omega
  have hn : (B2.part s 2 (B1.byteAt s 1)).size ≤ 281474976710656 := by have := B2.part_size s 2 (B1.byteAt s 1); omega
  by_cases h16 : s.size = 16
  · have g16 : ((s.size : Int) != 16) = false := by simp; omega
    by_cases hP : ((E0.putE (B1.byteAt s 0) (B2.part s 2 (B1.byteAt s 1))).toList == s.toList) = true
    · have HR : Hid (getE s = .tuple #[.agg #[.int .i64 (B1.byteAt s 0), .string (B2.part s 2 (B1.byteAt s 1))], .bool true]) := getE_yes (by rw [isE, ino, name, hP, decide_eq_true h16]; rfl)
      go_enter Tryz.func137, Tryz.ntmps137
      go_wp2_with (first
        | (go_at_call 160; refine (B1.impl_ByteAt _ _ _ hm).mono ?_; rintro e w' ⟨rfl, rfl⟩)
        | (go_at_call 17; refine (B2.impl_Part _ _ _ _ hs).mono ?_; rintro e w1 ⟨rfl, b1⟩; have t1 := two_new w w1 (B1.byteAt s 0) (B2.part s 2 (B1.byteAt s 1)) b1)
        | (go_at_call 166; refine (E2.impl_PutEntry _ _ _ hn).mono ?_; rintro e w2 ⟨rfl, b2⟩; have t2 := t1.below b2; have c0 := t2.n.c0; have c1 := t2.n.c1; have f0 := t2.n.f0; have f1 := t2.n.f1; have d0 := t2.m.c0; have d1 := t2.m.c1))
      have q := t2.n.put2 (.int .i64 (B1.byteAt s 0)) (.string (B2.part s 2 (B1.byteAt s 1)))
      exact bodyPost_ret (v := .tuple #[.agg #[.int .i64 (B1.byteAt s 0), .string (B2.part s 2 (B1.byteAt s 1))], .bool true]) (by simp [results, Tryz.results137, go_sem, q.c0, q.c1]) rfl
        ⟨ret_val HR.out.symm, (t2.bel.setCell (p := ⟨w.heap.size, 0, none⟩) (Nat.le_refl _) _).setCell (p := ⟨w.heap.size, 1, none⟩) (Nat.le_refl _) _⟩
    · have hP' : ((E0.putE (B1.byteAt s 0) (B2.part s 2 (B1.byteAt s 1))).toList == s.toList) = false := by simpa using hP
      have HR : Hid (getE s = .tuple #[.agg #[.int .i64 0, .string ⟨#[]⟩], .bool false]) := getE_no (by rw [isE, ino, name, hP', Bool.and_false])
      clear hP
      go_enter Tryz.func137, Tryz.ntmps137
      go_wp2_with (first
        | (go_at_call 160; refine (B1.impl_ByteAt _ _ _ hm).mono ?_; rintro e w' ⟨rfl, rfl⟩)
        | (go_at_call 17; refine (B2.impl_Part _ _ _ _ hs).mono ?_; rintro e w1 ⟨rfl, b1⟩; have t1 := two_new w w1 (B1.byteAt s 0) (B2.part s 2 (B1.byteAt s 1)) b1)
        | (go_at_call 166; refine (E2.impl_PutEntry _ _ _ hn).mono ?_; rintro e w2 ⟨rfl, b2⟩; have t2 := t1.below b2; have c0 := t2.n.c0; have c1 := t2.n.c1; have f0 := t2.n.f0; have f1 := t2.n.f1; have d0 := t2.m.c0; have d1 := t2.m.c1))
      have q := t2.n.put2 (.int .i64 0) (.string ⟨#[]⟩)
      exact bodyPost_ret (v := .tuple #[.agg #[.int .i64 0, .string ⟨#[]⟩], .bool false]) (by simp [results, Tryz.results137, go_sem, q.c0, q.c1]) rfl
        ⟨ret_val HR.out.symm, (t2.bel.setCell (p := ⟨w.heap.size, 0, none⟩) (Nat.le_refl _) _).setCell (p := ⟨w.heap.size, 1, none⟩) (Nat.le_refl _) _⟩
  · have g16 : ((s.size : Int) != 16) = true := by simp; omega
    have HR : Hid (getE s = .tuple #[.agg #[.int .i64 0, .string ⟨#[]⟩], .bool false]) := getE_no (by rw [isE, decide_eq_false h16, Bool.false_and])
    go_enter Tryz.func137, Tryz.ntmps137
    go_wp2
    refine bodyPost_ret (v := .tuple #[.agg #[.int .i64 0, .string ⟨#[]⟩], .bool false]) (by simp [results, Tryz.results137, go_sem]) rfl
      ⟨ret_val HR.out.symm, ?_⟩
    go_grown
end Go.Proofs.YtdljajjgppcjpaaGreat.E4

/- Plain facts on reading a directory out of bytes. -/
namespace Go.Proofs.YtdljajjgppcjpaaGreat.V0
open Go
set_option linter.unusedVariables false
set_option linter.unusedSimpArgs false

/-- The bytes of the entry at a place. -/
def chunk (s : ByteArray) (j : Nat) : ByteArray := B2.part s ((j : Int) * 16) 16

/-- The first entries that a text tells. -/
def ents (s : ByteArray) (k : Nat) : List T0.Ent := (List.range k).map fun (j : Nat) => (E4.eIno (chunk s j), E4.eName (chunk s j))

theorem ents_length (s : ByteArray) (k : Nat) : (ents s k).length = k := by simp [ents]
theorem ents_succ (s : ByteArray) (k : Nat) : ents s k ++ [(E4.eIno (chunk s k), E4.eName (chunk s k))] = ents s (k + 1) := by simp [ents, List.range_succ]
theorem ents_get (s : ByteArray) (k j : Nat) (h : j < k) : T0.ent (ents s k) j = (E4.eIno (chunk s j), E4.eName (chunk s j)) := by
  rw [T0.ent_get _ _ (by rw [ents_length]; exact h)]
  simp [ents]

/-- How many are read. -/
def cnt (s : ByteArray) : Nat := min ((s.size + 15) / 16) 13

/-- Whether a text is that of a directory. -/
def isD (s : ByteArray) : Bool := decide (s.size = 0) || ((T0.putD (ents s (cnt s))).toList == s.toList)

def dE (s : ByteArray) : List T0.Ent := if isD s then ents s (cnt s) else []

theorem toList_eq {a b : ByteArray} (h : a.toList = b.toList) : a = b := by
  rw [Lib.toList_data, Lib.toList_data] at h
  exact ByteArray.ext (Array.toList_inj.1 h)

theorem chunk_eq (s : ByteArray) (j : Nat) (h : (j + 1) * 16 ≤ s.size) : chunk s j = s.extract (j * 16) (j * 16 + 16) := by
  rw [chunk, B2.part, show B2.lies s.size ((j : Int) * 16) 16 = true from decide_eq_true (by omega), if_pos rfl, show ((j : Int) * 16).toNat = j * 16 by omega, show ((j : Int) * 16 + 16).toNat = j * 16 + 16 by omega]

theorem isE_eq {x : ByteArray} (h : E4.isE x = true) : E0.putE (E4.eIno x) (E4.eName x) = x := by
  have h2 := h
  simp only [E4.isE, Bool.and_eq_true, beq_iff_eq] at h2
  rw [E4.eIno, E4.eName, if_pos h, if_pos h]
  exact toList_eq h2.2

theorem not_isE {x : ByteArray} (h : E4.isE x = false) : E4.eIno x = 0 ∧ E4.eName x = ⟨#[]⟩ := by simp [E4.eIno, E4.eName, h]

theorem entryOk_zero : E0.entryOk 0 ⟨#[]⟩ = false := by
  rw [E0.entryOk, show B1.inB 0 1 7 = false from by decide, Bool.and_false]

theorem ext_join (s : ByteArray) (a b : Nat) (h1 : a ≤ b) (h2 : b ≤ s.size) : s.extract 0 a ++ s.extract a b = s.extract 0 b := by
  apply ByteArray.ext
  apply Array.toList_inj.1
  simp only [ByteArray.data_append, Array.toList_append, Lib.extract_data, List.drop_zero, Nat.sub_zero]
  rw [← List.take_add, show a + (b - a) = b by omega]

/-- Where all chunks are entries' the entries' bytes are the text's. -/
theorem joined_ext (s : ByteArray) (n : Nat) (hE : ∀ j, j < n → E4.isE (chunk s j) = true) : ∀ k, k ≤ n → k * 16 ≤ s.size → T0.joined (ents s n) k = s.extract 0 (k * 16)
  | 0, _, _ => by
    apply ByteArray.ext
    simp [T0.joined]
  | k + 1, hk, hs => by
    rw [T0.joined, joined_ext s n hE k (by omega) (by omega), ents_get s n k (by omega), isE_eq (hE k (by omega)), chunk_eq s k (by omega), ext_join s _ _ (by omega) (by omega), show k * 16 + 16 = (k + 1) * 16 by omega]

theorem ext_all (s : ByteArray) : s.extract 0 s.size = s := by
  apply ByteArray.ext
  apply Array.toList_inj.1
  rw [Lib.extract_data]
  simp only [List.drop_zero, Nat.sub_zero]
  exact List.take_of_length_le (by rw [← Lib.size_eq]; exact Nat.le_refl _)

/-- What the program asks for is what the specification asks for. -/
theorem isD_of {s : ByteArray} (h1 : s.size ≤ 192) (h2 : s.size % 16 = 0) (hE : ∀ j, j < s.size / 16 → E4.isE (chunk s j) = true) (hD : T0.dirOk (ents s (s.size / 16)) = true) : isD s = true ∧ cnt s = s.size / 16 := by
  have hc : cnt s = s.size / 16 := by unfold cnt; omega
  refine ⟨?_, hc⟩
  rw [isD, hc]
  have : T0.putD (ents s (s.size / 16)) = s := by
    rw [T0.putD, if_pos hD, ents_length, joined_ext s _ hE _ (Nat.le_refl _) (by omega), show s.size / 16 * 16 = s.size by omega]
    exact ext_all s
  rw [this]
  simp

theorem of_isD {s : ByteArray} (h : isD s = true) : s.size ≤ 192 ∧ s.size % 16 = 0 ∧ cnt s = s.size / 16 ∧ (∀ j, j < s.size / 16 → E4.isE (chunk s j) = true) ∧ T0.dirOk (ents s (s.size / 16)) = true := by
  by_cases h0 : s.size = 0
  · refine ⟨by omega, by omega, by unfold cnt; omega, fun j hj => by omega, ?_⟩
    rw [h0]
    rfl
  · rw [isD, decide_eq_false h0, Bool.false_or] at h
    have he : T0.putD (ents s (cnt s)) = s := toList_eq (by simpa using h)
    have hD : T0.dirOk (ents s (cnt s)) = true := by
      cases hb : T0.dirOk (ents s (cnt s)) with
      | true => rfl
      | false =>
        rw [T0.putD, hb] at he
        have := congrArg ByteArray.size he
        exact absurd this.symm h0
    have hd := hD
    simp only [T0.dirOk, Bool.and_eq_true, decide_eq_true_eq] at hd
    rw [ents_length] at hd
    have hsz : s.size = 16 * cnt s := by
      have := T0.joined_size hd.2 (cnt s) (Nat.le_refl _)
      rw [T0.putD, if_pos hD, ents_length] at he
      rw [he] at this
      exact this
    have hc : cnt s = s.size / 16 := by omega
    rw [← hc]
    refine ⟨by omega, by omega, rfl, fun j hj => ?_, hD⟩
    cases hb : E4.isE (chunk s j) with
    | true => rfl
    | false =>
      have h1 := (T0.okAt_entry (T0.okUpto_at hd.2 hj)).1
      rw [ents_get s _ j hj, (not_isE hb).1, (not_isE hb).2, entryOk_zero] at h1
      cases h1
end Go.Proofs.YtdljajjgppcjpaaGreat.V0

/- Plain facts on lists of pages; rows of integers in memory. -/
namespace Go.Proofs.YtdljajjgppcjpaaGreat.P0
open Go.RowKit
set_option linter.unusedVariables false
set_option linter.unusedSimpArgs false

/-- Whether a number is among some. -/
def has (l : List Int) (x : Int) : Bool := l.contains x

/-- The number at a place is a data page that does not stand ahead of it. -/
def okAt (zs : List Int) (i : Nat) : Bool := B1.inB (zs.getD i 0) 5 23 && !(has (zs.take i) (zs.getD i 0))

/-- The first numbers are data pages, no two alike. -/
def okUpto (zs : List Int) (k : Nat) : Bool := (List.range k).all (okAt zs)

def pagesOk (zs : List Int) : Bool := okUpto zs zs.length

theorem okUpto_succ (zs : List Int) (k : Nat) : okUpto zs (k + 1) = (okUpto zs k && okAt zs k) := by
  simp [okUpto, List.range_succ]

theorem okUpto_bad {zs : List Int} {k n : Nat} (hk : k < n) (h : okAt zs k = false) : okUpto zs n = false := by
  rw [okUpto, List.all_eq_false]
  exact ⟨k, List.mem_range.2 hk, by rw [h]; decide⟩

theorem getD_get (zs : List Int) (k : Nat) (h : k < zs.length) : zs.getD k 0 = zs[k] := by simp [List.getD, h]

theorem contains_succ (zs : List Int) (k : Nat) (x : Int) (h : k < zs.length) : has (zs.take (k + 1)) x = (has (zs.take k) x || x == zs.getD k 0) := by
  unfold has
  rw [List.take_succ_eq_append_getElem h, List.contains_eq_any_beq, List.contains_eq_any_beq, List.any_append, getD_get _ _ h]
  simp

theorem contains_of {zs : List Int} {k n : Nat} (hk : k < n) (hn : n ≤ zs.length) : has (zs.take n) (zs.getD k 0) = true := by
  unfold has
  rw [List.contains_iff_mem]
  rw [getD_get _ _ (by omega)]
  exact List.mem_iff_getElem.2 ⟨k, by simp; omega, by simp⟩

/-- How many pages hold so many bytes. -/
def need (s : Int) : Int := (s + 31) / 32

/-- A slice's place holds these numbers; nothing is said of it where there are none. -/
def Row (W : World) (a : Option Addr) (zs : List Int) : Prop := zs = [] ∨ ∃ b off, a = some ⟨b, off, none⟩ ∧ b < W.heap.size ∧ ∀ j, j < zs.length → W.cell? ⟨b, off + j, none⟩ = some (.int .i64 (zs.getD j 0))

theorem Row.below {W W' : World} {a : Option Addr} {zs : List Int} (h : Row W a zs) (hb : Below W.heap.size W W') : Row W' a zs := by
  rcases h with h | ⟨b, off, ha, hlt, hc⟩
  · exact Or.inl h
  · exact Or.inr ⟨b, off, ha, Nat.lt_of_lt_of_le hlt hb.size, fun j hj => (hb.cell (p := ⟨b, off + j, none⟩) hlt).trans (hc j hj)⟩

theorem Row.alloc {W : World} {a : Option Addr} {zs : List Int} (h : Row W a zs) (o : Obj) : Row (W.alloc o) a zs := h.below ((Below.refl _ _).alloc (Nat.le_refl _) o)
theorem Row.drew {W : World} {a : Option Addr} {zs : List Int} (h : Row W a zs) : Row W.drew a zs := h
theorem Row.drewN {W : World} {a : Option Addr} {zs : List Int} (h : Row W a zs) (n : Nat) : Row (W.drewN n) a zs := h

theorem Row.get {W : World} {a : Option Addr} {zs : List Int} {k : Nat} (h : Row W a zs) (hk : k < zs.length) : ∃ b off, a = some ⟨b, off, none⟩ ∧ b < W.heap.size ∧ ∀ j, j < zs.length → W.cell? ⟨b, off + j, none⟩ = some (.int .i64 (zs.getD j 0)) := by
  rcases h with h | h
  · subst h
    simp at hk
  · exact h
end Go.Proofs.YtdljajjgppcjpaaGreat.P0

/- Contracts of spec.l02Has, spec.l03Pages, spec.l03Need, impl.pagesOk and impl.pagesFor, as the given laws call them. -/
namespace Go.Proofs.YtdljajjgppcjpaaGreat.P1
open Go.ChangeShapes Go.WideShapes Go.ChangeAt Go.RowKit
set_option linter.unusedVariables false
set_option linter.unusedSimpArgs false
set_option maxRecDepth 10000

theorem ret_bool {a b : Bool} (h : a = b) : Ending.returned (.bool a) = .returned (.bool b) := by rw [h]

theorem l02Has (b off n c : Nat) (zs : List Int) (x : Int) (w : World) (hz : n ≤ zs.length) (hbig : n ≤ 281474976710656) (hc : ∀ j, j < zs.length → w.cell? ⟨b, off + j, none⟩ = some (.int .i64 (zs.getD j 0))) :
    Calls Tryz.prog 41 #[.slice (some ⟨b, off, none⟩) n c, .int .i64 x] w fun e w' => e = .returned (.bool (P0.has (zs.take n) x)) ∧ w' = w := by
  go_enter Tryz.func41, Tryz.ntmps41
  go_wp2
  go_loop [5] (fun i => ∃ k : Nat, k ≤ n ∧ P0.has (zs.take k) x = false ∧ i = .int .i64 k) (fun i => n - (intOf i).toNat)
  case atStart => exact ⟨0, Nat.zero_le _, rfl, rfl⟩
  case round =>
    obtain ⟨k, hk, hno, rfl⟩ := hrel
    by_cases hlt : k < n
    · have x1 := hc k (by omega)
      have hs := P0.contains_succ zs k x (by omega)
      have hin := fun h : x = zs.getD k 0 => h ▸ P0.contains_of (zs := zs) hlt hz
      obtain ⟨z, ez⟩ : ∃ z, zs.getD k 0 = z := ⟨_, rfl⟩
      rw [ez] at x1 hs hin
      have e1 : (0 : Int) ≤ (k : Int) := by omega
      have e2 : (k : Int) < (n : Int) := by omega
      by_cases h : z = x
      · have h' : (z == x) = true := by simpa using h
        have HR : Hid (P0.has (zs.take n) x = true) := hin h.symm
        clear h hs hin hno ez hc
        go_wp2
        go_ret
        exact ⟨ret_bool HR.out.symm, rfl⟩
      · have h' : (z == x) = false := by simpa using h
        have HN : Hid (P0.has (zs.take (k + 1)) x = false) := by
          rw [hs, hno, show (x == z) = false by simpa using fun q : x = z => h q.symm]
          rfl
        clear h hs hin hno ez hc
        go_wp2
        go_round
        case rel => exact ⟨k + 1, by omega, HN.out, by go_num⟩
        case measure => simp [intOf]; omega
    · obtain rfl : k = n := by omega
      have HN : Hid (P0.has (zs.take k) x = false) := hno
      clear hno hc
      go_wp2
      go_ret
      exact ⟨ret_bool HN.out.symm, rfl⟩

theorem quiet_bool {P : Program} {f : FuncId} {args : Array Value} {w : World} {n : Nat} {a b : Bool} (h : Calls P f args (w.drewN n) fun e w' => e = .returned (.bool a) ∧ w' = w.drewN n) (hab : a = b) :
    Calls P f args (w.drewN n) fun e w'' => e = .returned (.bool b) ∧ ∃ m, w'' = w.drewN m := hab ▸ Calls.quiet_of_same h

set_option maxHeartbeats 1000000 in
theorem l03Pages (a : Option Addr) (c : Nat) (zs : List Int) (w : World) (hbig : zs.length ≤ 281474976710656) (hcap : zs.length ≤ c) (hR : P0.Row w a zs) :
    Calls Tryz.prog 89 #[.slice a zs.length c] w fun e w' => e = .returned (.bool (P0.pagesOk zs)) ∧ ∃ n, w' = w.drewN n := by
  go_enter Tryz.func89, Tryz.ntmps89
  go_wp2
  go_loopw [3] (fun i w' => ∃ k n : Nat, k ≤ zs.length ∧ P0.okUpto zs k = true ∧ i = .int .i64 k ∧ w' = w.drewN n) (fun i _ => zs.length - (intOf i).toNat)
  case atStart => exact ⟨0, 0, Nat.zero_le _, rfl, rfl, rfl⟩
  case round =>
    obtain ⟨k, n, hk, hok, rfl, hW⟩ := hrel
    have HW : Hid (∀ m, ∃ m', wr.drewN m = w.drewN m') := fun m => ⟨n + m, by rw [hW, World.drewN_drewN]⟩
    by_cases hlt : k < zs.length
    · have hR' : P0.Row wr a zs := by rw [hW]; exact hR.drewN n
      obtain ⟨b, off, rfl, hb, hc⟩ := hR'.get hlt
      have hH : Hid (∀ m x, Calls Tryz.prog 41 #[.slice (some ⟨b, off, none⟩) k c, .int .i64 x] (wr.drewN m) fun e w' => e = .returned (.bool (P0.has (zs.take k) x)) ∧ w' = wr.drewN m) := fun m x => l02Has b off k c zs x _ (by omega) (by omega) hc
      have x1 := hc k hlt
      have hs := P0.okUpto_succ zs k
      have hat : P0.okAt zs k = (B1.inB (zs.getD k 0) 5 23 && !(P0.has (zs.take k) (zs.getD k 0))) := rfl
      obtain ⟨z, ez⟩ : ∃ z, zs.getD k 0 = z := ⟨_, rfl⟩
      rw [ez] at x1 hat
      have e1 : (0 : Int) ≤ (k : Int) := by omega
      have e2 : (k : Int) < (zs.length : Int) := by omega
      have e3 : (k : Int) ≤ (c : Int) := by omega
      by_cases h1 : B1.inB z 5 23 = true
      · by_cases h2 : P0.has (zs.take k) z = true
        · have HR : Hid (P0.pagesOk zs = false) := P0.okUpto_bad hlt (by rw [hat, h1, h2]; rfl)
          clear hs hat hok ez hc hR hR' hW
          go_wp2
          go_quiet ((first | (go_at_call 37; exact quiet_bool (B1.l01In_any _ _ _ _) h1) | (go_at_call 41; exact quiet_bool (hH.out _ _) h2)))
          go_wp2
          go_ret
          exact ⟨ret_bool HR.out.symm, HW.out _⟩
        · have h2' : P0.has (zs.take k) z = false := by simpa using h2
          have HO : Hid (P0.okUpto zs (k + 1) = true) := by rw [hs, hok, hat, h1, h2']; rfl
          clear hs hat hok ez hc hR hR' hW h2
          go_wp2
          go_quiet ((first | (go_at_call 37; exact quiet_bool (B1.l01In_any _ _ _ _) h1) | (go_at_call 41; exact quiet_bool (hH.out _ _) h2')))
          go_wp2
          obtain ⟨m', hm'⟩ := HW.out nq
          go_roundw
          case rel => exact ⟨k + 1, m', by omega, HO.out, by go_num, hm'⟩
          case measure => simp [intOf]; omega
      · have h1' : B1.inB z 5 23 = false := by simpa using h1
        have HR : Hid (P0.pagesOk zs = false) := P0.okUpto_bad hlt (by rw [hat, h1']; rfl)
        clear hs hat hok ez hc hR hR' hW h1
        go_wp2
        go_quiet ((go_at_call 37; exact quiet_bool (B1.l01In_any _ _ _ _) h1'))
        go_wp2
        go_ret
        exact ⟨ret_bool HR.out.symm, HW.out _⟩
    · obtain rfl : k = zs.length := by omega
      have HR : Hid (P0.pagesOk zs = true) := hok
      have HW0 : Hid (wr = w.drewN n) := hW
      clear hok hR hW
      go_wp2
      go_ret
      exact ⟨ret_bool HR.out.symm, n, HW0.out⟩

theorem impl_Contains (b off n c : Nat) (zs : List Int) (x : Int) (w : World) (hz : n ≤ zs.length) (hbig : n ≤ 281474976710656) (hc : ∀ j, j < zs.length → w.cell? ⟨b, off + j, none⟩ = some (.int .i64 (zs.getD j 0))) :
    Calls Tryz.prog 130 #[.slice (some ⟨b, off, none⟩) n c, .int .i64 x] w fun e w' => e = .returned (.bool (P0.has (zs.take n) x)) ∧ w' = w :=
  Tryz.slices_Contains_int b off n c zs x w hz (by omega) hc

set_option maxHeartbeats 1000000 in
theorem pagesOk (a : Option Addr) (c : Nat) (zs : List Int) (w : World) (hbig : zs.length ≤ 281474976710656) (hcap : zs.length ≤ c) (hR : P0.Row w a zs) :
    Calls Tryz.prog 119 #[.slice a zs.length c] w fun e w' => e = .returned (.bool (P0.pagesOk zs)) ∧ w' = w := by
  go_enter Tryz.func119, Tryz.ntmps119
  go_wp2
  go_loop [7] (fun i => ∃ k : Nat, k ≤ zs.length ∧ P0.okUpto zs k = true ∧ i = .int .i64 k) (fun i => zs.length - (intOf i).toNat)
  case atStart => exact ⟨0, Nat.zero_le _, rfl, rfl⟩
  case round =>
    obtain ⟨k, hk, hok, rfl⟩ := hrel
    by_cases hlt : k < zs.length
    · obtain ⟨b, off, rfl, hb, hc⟩ := hR.get hlt
      have hH : Hid (∀ x, Calls Tryz.prog 130 #[.slice (some ⟨b, off, none⟩) k c, .int .i64 x] w fun e w' => e = .returned (.bool (P0.has (zs.take k) x)) ∧ w' = w) := fun x => impl_Contains b off k c zs x _ (by omega) (by omega) hc
      have x1 := hc k hlt
      have hs := P0.okUpto_succ zs k
      have hat : P0.okAt zs k = (B1.inB (zs.getD k 0) 5 23 && !(P0.has (zs.take k) (zs.getD k 0))) := rfl
      obtain ⟨z, ez⟩ : ∃ z, zs.getD k 0 = z := ⟨_, rfl⟩
      rw [ez] at x1 hat
      have e1 : (0 : Int) ≤ (k : Int) := by omega
      have e2 : (k : Int) < (zs.length : Int) := by omega
      have e3 : (k : Int) ≤ (c : Int) := by omega
      by_cases g1 : z < 5
      · have HR : Hid (P0.pagesOk zs = false) := P0.okUpto_bad hlt (by rw [hat, show B1.inB z 5 23 = false from decide_eq_false (by omega)]; rfl)
        clear hs hat hok ez hc hR
        go_wp2
        go_ret
        exact ⟨ret_bool HR.out.symm, rfl⟩
      · by_cases g2 : 24 ≤ z
        · have HR : Hid (P0.pagesOk zs = false) := P0.okUpto_bad hlt (by rw [hat, show B1.inB z 5 23 = false from decide_eq_false (by omega)]; rfl)
          clear hs hat hok ez hc hR
          go_wp2
          go_ret
          exact ⟨ret_bool HR.out.symm, rfl⟩
        · have h1 : B1.inB z 5 23 = true := decide_eq_true (by omega)
          by_cases h2 : P0.has (zs.take k) z = true
          · have HR : Hid (P0.pagesOk zs = false) := P0.okUpto_bad hlt (by rw [hat, h1, h2]; rfl)
            clear hs hat hok ez hc hR
            go_wp2_with (go_at_call 130; refine (hH.out _).mono ?_; rintro e w' ⟨rfl, rfl⟩)
            go_ret
            exact ⟨ret_bool HR.out.symm, rfl⟩
          · have h2' : P0.has (zs.take k) z = false := by simpa using h2
            have HO : Hid (P0.okUpto zs (k + 1) = true) := by rw [hs, hok, hat, h1, h2']; rfl
            clear hs hat hok ez hc hR h2
            go_wp2_with (go_at_call 130; refine (hH.out _).mono ?_; rintro e w' ⟨rfl, rfl⟩)
            go_round
            case rel => exact ⟨k + 1, by omega, HO.out, by go_num⟩
            case measure => simp [intOf]; omega
    · obtain rfl : k = zs.length := by omega
      have HR : Hid (P0.pagesOk zs = true) := hok
      clear hok hR
      go_wp2
      go_ret
      exact ⟨ret_bool HR.out.symm, rfl⟩

theorem l03Need (s : Int) (w : World) (h0 : 0 ≤ s) (h1 : s ≤ 65535) :
    Calls Tryz.prog 84 #[.int .i64 s] w fun e w' => e = .returned (.int .i64 (P0.need s)) ∧ w' = w := by
  have e : P0.need s = (s + 32 - 1) / 32 := by unfold P0.need; omega
  rw [e]
  go_enter Tryz.func84, Tryz.ntmps84
  go_wp2
  go_ret
  exact ⟨rfl, rfl⟩

theorem pagesFor (s : Int) (w : World) (h0 : 0 ≤ s) (h1 : s ≤ 65535) :
    Calls Tryz.prog 162 #[.int .i64 s] w fun e w' => e = .returned (.int .i64 (P0.need s)) ∧ w' = w := by
  have e : P0.need s = (s + 32 - 1) / 32 := by unfold P0.need; omega
  rw [e]
  go_enter Tryz.func162, Tryz.ntmps162
  go_wp2
  go_ret
  exact ⟨rfl, rfl⟩
end Go.Proofs.YtdljajjgppcjpaaGreat.P1

/- Plain facts on inodes; contracts of the program's checks of an inode's parts. -/
namespace Go.Proofs.YtdljajjgppcjpaaGreat.I0
open Go.ChangeShapes Go.WideShapes Go.ChangeAt Go.RowKit
set_option linter.unusedVariables false
set_option linter.unusedSimpArgs false
set_option maxRecDepth 10000

open P1 (ret_bool quiet_bool)

/-- What a file's or a directory's inode must be. -/
def holds (o s : Int) (zs : List Int) : Bool := B1.inB o 0 9 && (B1.inB s 0 192 && (decide ((zs.length : Int) = P0.need s) && P0.pagesOk zs))

/-- What a free inode must be. -/
def free (o s : Int) (zs : List Int) : Bool := decide (o = 0) && (decide (s = 0) && decide (zs.length = 0))

/-- What an inode must be. -/
def ok (k o s : Int) (zs : List Int) : Bool := if k = 0 then free o s zs else if k = 1 then holds o s zs else if k = 2 then holds o s zs && decide (s % 16 = 0) else false

abbrev val (k o s : Int) (a : Option Addr) (n c : Nat) : Value := .agg #[.int .i64 k, .int .i64 o, .int .i64 s, .slice a n c]
abbrev vals (k o s : Int) (a : Option Addr) (n c : Nat) : List Value := [.int .i64 k, .int .i64 o, .int .i64 s, .slice a n c]

theorem clientOk (o : Int) (w : World) : Calls Tryz.prog 118 #[.int .i64 o] w fun e w' => e = .returned (.bool (B1.inB o 0 8)) ∧ w' = w := by
  by_cases h1 : 0 ≤ o
  · by_cases h2 : o ≤ 8
    · have HR : Hid (B1.inB o 0 8 = true) := decide_eq_true (by omega)
      go_enter Tryz.func118, Tryz.ntmps118
      go_wp2
      go_ret
      exact ⟨ret_bool HR.out.symm, rfl⟩
    · have h2' : decide (o ≤ 8) = false := by simpa using h2
      have HR : Hid (B1.inB o 0 8 = false) := decide_eq_false (by omega)
      go_enter Tryz.func118, Tryz.ntmps118
      go_wp2
      go_ret
      exact ⟨ret_bool HR.out.symm, rfl⟩
  · have HR : Hid (B1.inB o 0 8 = false) := decide_eq_false (by omega)
    have h1' : decide (0 ≤ o) = false := by simpa using h1
    go_enter Tryz.func118, Tryz.ntmps118
    go_wp2
    go_ret
    exact ⟨ret_bool HR.out.symm, rfl⟩

theorem ownerOk (o : Int) (w : World) : Calls Tryz.prog 201 #[.int .i64 o] w fun e w' => e = .returned (.bool (B1.inB o 0 9)) ∧ w' = w := by
  have HC := clientOk o w
  cases hc : B1.inB o 0 8 with
  | true =>
    rw [hc] at HC
    have HR : Hid (B1.inB o 0 9 = true) := decide_eq_true (by have := of_decide_eq_true hc; omega)
    go_enter Tryz.func201, Tryz.ntmps201
    go_wp2_with (go_at_call 118; refine HC.mono ?_; rintro e w1 ⟨rfl, rfl⟩)
    go_ret
    exact ⟨ret_bool HR.out.symm, rfl⟩
  | false =>
    rw [hc] at HC
    have hn := of_decide_eq_false hc
    by_cases h3 : o = 9
    · have HR : Hid (B1.inB o 0 9 = true) := decide_eq_true (by omega)
      have h3' : (o == 9) = true := by simpa using h3
      clear h3 hn
      go_enter Tryz.func201, Tryz.ntmps201
      go_wp2_with (go_at_call 118; refine HC.mono ?_; rintro e w1 ⟨rfl, rfl⟩)
      go_ret
      exact ⟨ret_bool HR.out.symm, rfl⟩
    · have HR : Hid (B1.inB o 0 9 = false) := decide_eq_false (by omega)
      have h3' : (o == 9) = false := by simpa using h3
      clear h3 hn
      go_enter Tryz.func201, Tryz.ntmps201
      go_wp2_with (go_at_call 118; refine HC.mono ?_; rintro e w1 ⟨rfl, rfl⟩)
      go_ret
      exact ⟨ret_bool HR.out.symm, rfl⟩

theorem below_alloc_drew (w : World) (o : Obj) (n : Nat) : Below w.heap.size w ((w.alloc o).drewN n) := K0.below_drewN (K0.below_new w o) n

set_option maxHeartbeats 1000000 in
theorem holdsOk (k o s : Int) (a : Option Addr) (c : Nat) (zs : List Int) (w : World) (hbig : zs.length ≤ 281474976710656) (hcap : zs.length ≤ c) (hR : P0.Row w a zs) :
    Calls Tryz.prog 200 #[val k o s a zs.length c] w fun e w' => e = .returned (.bool (holds o s zs)) ∧ Below w.heap.size w w' := by
  have hB := K0.below_new w (.cells #[.int .i64 k, .int .i64 o, .int .i64 s, .slice a zs.length c] 69)
  have hR' := hR.alloc (.cells #[.int .i64 k, .int .i64 o, .int .i64 s, .slice a zs.length c] 69)
  have hP : Hid (∀ m, Calls Tryz.prog 119 #[.slice a zs.length c] ((w.alloc (.cells #[.int .i64 k, .int .i64 o, .int .i64 s, .slice a zs.length c] 69)).drewN m) fun e w' => e = .returned (.bool (P0.pagesOk zs)) ∧ w' = (w.alloc (.cells #[.int .i64 k, .int .i64 o, .int .i64 s, .slice a zs.length c] 69)).drewN m) := fun m => P1.pagesOk a c zs _ hbig hcap hR'
  by_cases h1 : s < 0
  · have HR : Hid (holds o s zs = false) := by rw [holds, show B1.inB s 0 192 = false from decide_eq_false (by omega), Bool.false_and, Bool.and_false]; rfl
    go_enter Tryz.func200, Tryz.ntmps200
    go_wp2
    go_ret
    exact ⟨ret_bool HR.out.symm, hB⟩
  · by_cases h2 : 192 < s
    · have HR : Hid (holds o s zs = false) := by rw [holds, show B1.inB s 0 192 = false from decide_eq_false (by omega), Bool.false_and, Bool.and_false]; rfl
      go_enter Tryz.func200, Tryz.ntmps200
      go_wp2
      go_ret
      exact ⟨ret_bool HR.out.symm, hB⟩
    · have HS : Hid (holds o s zs = (B1.inB o 0 9 && (decide ((zs.length : Int) = P0.need s) && P0.pagesOk zs))) := by rw [holds, show B1.inB s 0 192 = true from decide_eq_true (by omega), Bool.true_and]; rfl
      clear hB
      by_cases g1 : B1.inB o 0 9 = true
      · by_cases g2 : (zs.length : Int) = P0.need s
        · have g2' : ((zs.length : Int) == P0.need s) = true := by simpa using g2
          have HR : Hid (holds o s zs = P0.pagesOk zs) := by rw [HS.out, g1, decide_eq_true g2]; rfl
          clear g2 hR hR'
          go_enter Tryz.func200, Tryz.ntmps200
          go_wp2
          go_quiet ((first | (go_at_call 201; exact quiet_bool (ownerOk _ _) g1) | (go_at_call 162; exact Calls.quiet_of_same (P1.pagesFor _ _ (by omega) (by omega))) | (go_at_call 119; exact Calls.quiet_of_same (hP.out _))))
          go_wp2
          go_ret
          exact ⟨ret_bool HR.out.symm, below_alloc_drew _ _ _⟩
        · have g2' : ((zs.length : Int) == P0.need s) = false := by simpa using g2
          have HR : Hid (holds o s zs = false) := by rw [HS.out, decide_eq_false g2, Bool.false_and, Bool.and_false]; rfl
          clear g2 hR hR'
          go_enter Tryz.func200, Tryz.ntmps200
          go_wp2
          go_quiet ((first | (go_at_call 201; exact quiet_bool (ownerOk _ _) g1) | (go_at_call 162; exact Calls.quiet_of_same (P1.pagesFor _ _ (by omega) (by omega)))))
          go_wp2
          go_ret
          exact ⟨ret_bool HR.out.symm, below_alloc_drew _ _ _⟩
      · have g1' : B1.inB o 0 9 = false := by simpa using g1
        have HR : Hid (holds o s zs = false) := by rw [HS.out, g1', Bool.false_and]; rfl
        clear hR hR'
        go_enter Tryz.func200, Tryz.ntmps200
        go_wp2
        go_quiet ((go_at_call 201; exact quiet_bool (ownerOk _ _) g1'))
        go_wp2
        go_ret
        exact ⟨ret_bool HR.out.symm, below_alloc_drew _ _ _⟩

theorem freeSound (k o s : Int) (a : Option Addr) (c n : Nat) (zs : List Int) (w : World) (hn : n = zs.length) :
    Calls Tryz.prog 203 #[val k o s a n c] w fun e w' => e = .returned (.bool (free o s zs)) ∧ Below w.heap.size w w' := by
  have hB := K0.below_new w (.cells #[.int .i64 k, .int .i64 o, .int .i64 s, .slice a n c] 226)
  by_cases h1 : o = 0
  · subst h1
    by_cases h2 : s = 0
    · subst h2
      by_cases h3 : n = 0
      · have HR : Hid (free 0 0 zs = true) := by rw [free, ← hn, h3]; rfl
        subst h3
        clear hn
        go_enter Tryz.func203, Tryz.ntmps203
        go_wp2
        go_ret
        exact ⟨ret_bool HR.out.symm, hB⟩
      · have HR : Hid (free 0 0 zs = false) := by rw [free, ← hn, decide_eq_false h3]; rfl
        have h3' : ((n : Int) == 0) = false := by simp; omega
        clear hn
        go_enter Tryz.func203, Tryz.ntmps203
        go_wp2
        go_ret
        exact ⟨ret_bool HR.out.symm, hB⟩
    · have HR : Hid (free 0 s zs = false) := by rw [free, decide_eq_false h2, Bool.false_and, Bool.and_false]; rfl
      have h2' : (s == 0) = false := by simpa using h2
      clear hn
      go_enter Tryz.func203, Tryz.ntmps203
      go_wp2
      go_ret
      exact ⟨ret_bool HR.out.symm, hB⟩
  · have HR : Hid (free o s zs = false) := by rw [free, decide_eq_false h1, Bool.false_and]; rfl
    have h1' : (o == 0) = false := by simpa using h1
    clear hn
    go_enter Tryz.func203, Tryz.ntmps203
    go_wp2
    go_ret
    exact ⟨ret_bool HR.out.symm, hB⟩

theorem fileSound (k o s : Int) (a : Option Addr) (c : Nat) (zs : List Int) (w : World) (hbig : zs.length ≤ 281474976710656) (hcap : zs.length ≤ c) (hR : P0.Row w a zs) :
    Calls Tryz.prog 199 #[val k o s a zs.length c] w fun e w' => e = .returned (.bool (holds o s zs)) ∧ Below w.heap.size w w' := by
  have hB := K0.below_new w (.cells #[.int .i64 k, .int .i64 o, .int .i64 s, .slice a zs.length c] 214)
  have hR' := hR.alloc (.cells #[.int .i64 k, .int .i64 o, .int .i64 s, .slice a zs.length c] 214)
  go_enter Tryz.func199, Tryz.ntmps199
  go_wp2_with (go_at_call 200; refine (holdsOk k o s a c zs _ hbig hcap hR').mono ?_; rintro e w' ⟨rfl, hb⟩)
  go_ret
  exact ⟨rfl, hB.trans (hb.mono hB.size)⟩

theorem dirSound (k o s : Int) (a : Option Addr) (c : Nat) (zs : List Int) (w : World) (hbig : zs.length ≤ 281474976710656) (hcap : zs.length ≤ c) (hR : P0.Row w a zs) :
    Calls Tryz.prog 202 #[val k o s a zs.length c] w fun e w' => e = .returned (.bool (holds o s zs && decide (s % 16 = 0))) ∧ Below w.heap.size w w' := by
  have hB := K0.below_new w (.cells #[.int .i64 k, .int .i64 o, .int .i64 s, .slice a zs.length c] 216)
  have hR' := hR.alloc (.cells #[.int .i64 k, .int .i64 o, .int .i64 s, .slice a zs.length c] 216)
  have hK := K0.blk_new (vals k o s a zs.length c) w 216
  by_cases hh : holds o s zs = true
  · have hs := hh
    simp only [holds, Bool.and_eq_true] at hs
    obtain ⟨hs1, hs2⟩ := B1.inB_true hs.2.1
    clear hs
    by_cases h16 : s % 16 = 0
    · have h16' : (s % 16 == 0) = true := by simpa using h16
      have HR : Hid ((holds o s zs && decide (s % 16 = 0)) = true) := by rw [hh, decide_eq_true h16]; rfl
      clear h16
      go_enter Tryz.func202, Tryz.ntmps202
      go_wp2_with (go_at_call 200; refine (holdsOk k o s a c zs _ hbig hcap hR').mono ?_; rintro e w' ⟨rfl, hb⟩; have hK' := hK.below hb; have c2 := hK'.c2)
      go_ret
      exact ⟨ret_bool HR.out.symm, hB.trans (hb.mono hB.size)⟩
    · have h16' : (s % 16 == 0) = false := by simpa using h16
      have HR : Hid ((holds o s zs && decide (s % 16 = 0)) = false) := by rw [decide_eq_false h16, Bool.and_false]; rfl
      clear h16
      go_enter Tryz.func202, Tryz.ntmps202
      go_wp2_with (go_at_call 200; refine (holdsOk k o s a c zs _ hbig hcap hR').mono ?_; rintro e w' ⟨rfl, hb⟩; have hK' := hK.below hb; have c2 := hK'.c2)
      go_ret
      exact ⟨ret_bool HR.out.symm, hB.trans (hb.mono hB.size)⟩
  · have hh' : holds o s zs = false := by simpa using hh
    have HR : Hid ((holds o s zs && decide (s % 16 = 0)) = false) := by rw [hh', Bool.false_and]; rfl
    go_enter Tryz.func202, Tryz.ntmps202
    go_wp2_with (go_at_call 200; refine (holdsOk k o s a c zs _ hbig hcap hR').mono ?_; rintro e w' ⟨rfl, hb⟩)
    go_ret
    exact ⟨ret_bool HR.out.symm, hB.trans (hb.mono hB.size)⟩
end Go.Proofs.YtdljajjgppcjpaaGreat.I0

/- Plain facts on an inode as bytes. -/
namespace Go.Proofs.YtdljajjgppcjpaaGreat.R0
open Go
set_option linter.unusedVariables false
set_option linter.unusedSimpArgs false

/-- Pages as a byte each. -/
def pg (zs : List Int) : ByteArray := ⟨(zs.map fun z => UInt8.ofNat z.toNat).toArray⟩

theorem pg_size (zs : List Int) : (pg zs).size = zs.length := by simp [pg, ByteArray.size]
theorem pg_nil : pg [] = ⟨#[]⟩ := rfl
theorem pg_snoc (zs : List Int) (k : Nat) (h : k < zs.length) : pg (zs.take k) ++ ⟨#[UInt8.ofNat (zs.getD k 0).toNat]⟩ = pg (zs.take (k + 1)) := by
  apply ByteArray.ext
  rw [ByteArray.data_append]
  apply Array.toList_inj.1
  simp only [pg, Array.toList_append, List.take_succ_eq_append_getElem h, List.map_append, List.map_cons, List.map_nil, P0.getD_get zs k h]

/-- Kind and owner. -/
def two (k o : Int) : ByteArray := ⟨#[UInt8.ofNat k.toNat, UInt8.ofNat o.toNat]⟩

theorem two_size (k o : Int) : (two k o).size = 2 := rfl

/-- What stands ahead of the zeros. -/
def head (k o s : Int) (zs : List Int) : ByteArray := two k o ++ B3.pair s ++ pg zs

/-- An inode as bytes; none where it is not right. -/
def putI (k o s : Int) (zs : List Int) : ByteArray := if I0.ok k o s zs then head k o s zs ++ B4.nulls (12 - zs.length) else ⟨#[]⟩

theorem pair_size (s : Int) (h0 : 0 ≤ s) (h1 : s ≤ 65535) : (B3.pair s).size = 2 := by
  rw [B3.pair, show B1.inB s 0 65535 = true from decide_eq_true ⟨h0, h1⟩]
  rfl

/-- Bounds of what is right. -/
theorem ok_bounds {k o s : Int} {zs : List Int} (h : I0.ok k o s zs = true) : (0 ≤ k ∧ k ≤ 2) ∧ (0 ≤ o ∧ o ≤ 9) ∧ (0 ≤ s ∧ s ≤ 192) ∧ zs.length ≤ 6 ∧ (zs.length : Int) = P0.need s ∧ P0.pagesOk zs = true := by
  have hh : ∀ {o s : Int} {zs : List Int}, I0.holds o s zs = true → (0 ≤ o ∧ o ≤ 9) ∧ (0 ≤ s ∧ s ≤ 192) ∧ zs.length ≤ 6 ∧ (zs.length : Int) = P0.need s ∧ P0.pagesOk zs = true := by
    intro o s zs h
    simp only [I0.holds, Bool.and_eq_true, decide_eq_true_eq] at h
    have h1 := B1.inB_true h.1
    have h2 := B1.inB_true h.2.1
    have h3 := h.2.2.1
    refine ⟨h1, h2, ?_, h3, h.2.2.2⟩
    unfold P0.need at h3
    omega
  unfold I0.ok at h
  split at h
  · rename_i e
    simp only [I0.free, Bool.and_eq_true, decide_eq_true_eq] at h
    have hz : zs = [] := List.eq_nil_of_length_eq_zero h.2.2
    refine ⟨by omega, by omega, by omega, by omega, ?_, ?_⟩
    · rw [h.2.1, h.2.2]; decide
    · rw [hz]; rfl
  · split at h
    · rename_i e
      exact ⟨by omega, hh h⟩
    · split at h
      · rename_i e
        simp only [Bool.and_eq_true] at h
        exact ⟨by omega, hh h.1⟩
      · cases h

theorem pages_bounds {zs : List Int} (h : P0.pagesOk zs = true) {k : Nat} (hk : k < zs.length) : 5 ≤ zs.getD k 0 ∧ zs.getD k 0 ≤ 23 := by
  have h1 : P0.okAt zs k = true := by
    cases hb : P0.okAt zs k with
    | true => rfl
    | false => rw [P0.pagesOk, P0.okUpto_bad hk hb] at h; cases h
  simp only [P0.okAt, Bool.and_eq_true] at h1
  exact B1.inB_true h1.1

theorem head_size (k o s : Int) (zs : List Int) (h0 : 0 ≤ s) (h1 : s ≤ 65535) : (head k o s zs).size = 4 + zs.length := by
  rw [head, ByteArray.size_append, ByteArray.size_append, two_size, pair_size s h0 h1, pg_size]

theorem putI_size (k o s : Int) (zs : List Int) : (putI k o s zs).size ≤ 16 := by
  unfold putI
  split
  · rename_i h
    obtain ⟨_, _, hs, hl, _⟩ := ok_bounds h
    rw [ByteArray.size_append, head_size _ _ _ _ (by omega) (by omega), B4.nulls_size]
    omega
  · exact Nat.zero_le _
end Go.Proofs.YtdljajjgppcjpaaGreat.R0

/- Contracts of spec.PairAt and impl.PairAt, as the given laws call them. -/
namespace Go.Proofs.YtdljajjgppcjpaaGreat.B6
open Go.ChangeShapes Go.WideShapes Go.ChangeAt Go.RowKit
set_option linter.unusedVariables false

/-- The number whose two bytes stand from a place on, the low one first; 0 where there are not two. -/
def pairAt (s : ByteArray) (i : Int) : Int := if h : 0 ≤ i ∧ i + 1 < s.size then (s[i.toNat]'(by omega)).toNat + 256 * (s[(i + 1).toNat]'(by omega)).toNat else 0

theorem spec_PairAt (s : ByteArray) (i : Int) (w : World) (hs : s.size ≤ 281474976710656) :
    Calls Tryz.prog 83 #[.string s, .int .i64 i] w fun e w' => e = .returned (.int .i64 (pairAt s i)) ∧ ∃ n, w' = w.drewN n := by
  by_cases h1 : i < 0
  · have e : pairAt s i = 0 := by rw [pairAt, dif_neg (by omega)]
    rw [e]
    go_enter Tryz.func83, Tryz.ntmps83
    go_wp2
    go_ret
    exact ⟨rfl, 0, rfl⟩
  · by_cases h2 : (s.size : Int) - 2 < i
    · have e : pairAt s i = 0 := by rw [pairAt, dif_neg (by omega)]
      rw [e]
      go_enter Tryz.func83, Tryz.ntmps83
      go_wp2
      go_ret
      exact ⟨rfl, 0, rfl⟩
    · have e : pairAt s i = (s[i.toNat]'(by omega)).toNat + 256 * (s[(i + 1).toNat]'(by omega)).toNat := by rw [pairAt, dif_pos (by omega)]
      rw [e]
      have h3 : i < (s.size : Int) := by omega
      have h4 : i + 1 < (s.size : Int) := by omega
      have h6 : 0 ≤ i := by omega
      have h7 : 0 ≤ i + 1 := by omega
      have b1 := (s[i.toNat]'(by omega)).toNat_lt
      have b2 := (s[(i + 1).toNat]'(by omega)).toNat_lt
      go_enter Tryz.func83, Tryz.ntmps83
      go_wp2
      go_quiet (fail)
      go_wp2
      go_ret
      exact ⟨rfl, _, rfl⟩

theorem impl_PairAt (s : ByteArray) (i : Int) (w : World) (hs : s.size ≤ 281474976710656) :
    Calls Tryz.prog 159 #[.string s, .int .i64 i] w fun e w' => e = .returned (.int .i64 (pairAt s i)) ∧ ∃ n, w' = w.drewN n := by
  have hs' : s.size ≤ maxLen := by unfold maxLen; omega
  by_cases h : B2.lies s.size i 2 = true
  · obtain ⟨h1, h2, h5⟩ := B2.lies_true h
    have e : pairAt s i = (s[i.toNat]'(by omega)).toNat + (s[(i + 1).toNat]'(by omega)).toNat * 256 := by rw [pairAt, dif_pos (by omega), Int.mul_comm]
    rw [e]
    have h3 : i < (s.size : Int) := by omega
    have h4 : i + 1 < (s.size : Int) := by omega
    have h6 : 0 ≤ i := by omega
    have h7 : 0 ≤ i + 1 := by omega
    have b1 := (s[i.toNat]'(by omega)).toNat_lt
    have b2 := (s[(i + 1).toNat]'(by omega)).toNat_lt
    go_enter Tryz.func159, Tryz.ntmps159
    go_wp2_with (go_at_call 45; refine (B2.liesIn_any _ _ _ _ hs').mono ?_; rintro e w' ⟨rfl, rfl⟩)
    go_quiet (fail)
    go_wp2
    go_ret
    exact ⟨rfl, _, rfl⟩
  · have h' : B2.lies s.size i 2 = false := by simpa using h
    have e : pairAt s i = 0 := by rw [pairAt, dif_neg (fun h9 => B2.lies_false h' (by omega))]
    rw [e]
    go_enter Tryz.func159, Tryz.ntmps159
    go_wp2_with (go_at_call 45; refine (B2.liesIn_any _ _ _ _ hs').mono ?_; rintro e w' ⟨rfl, rfl⟩)
    go_ret
    exact ⟨rfl, 0, rfl⟩
end Go.Proofs.YtdljajjgppcjpaaGreat.B6
