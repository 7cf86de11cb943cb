/- Joined texts: plain facts and contracts. -/
import Derived.Test.YtpkmeknniajahaaGreatDoorRows
import Derived.Test.YtpkmeknniajahaaGreatDoorJnA
import Derived.WalkKit
import Derived.ProofKit
import Derived.Shelf.Small.Bits
import Derived.Shelf.Small.Strs
import Derived.Shelf.Strconv.Itoa0
import Derived.Shelf.LaysM
import Derived.Shelf.Strconv.Clone
import Derived.Shelf.Slices.Turned
import Derived.Ground.Names2Prog
import Derived.Shelf.Slices.Clone
import Derived.Shelf.Slices.CompactI
import Derived.Test.YtpkmeknniajahaaGreatDoorProg
import Derived.Shelf.Strings.Builder1
import Derived.Shelf.Strings.Builder2
import Derived.Shelf.Strings.OnBuilder
import Derived.Shelf.Strconv.Itoa1
import Derived.Shelf.Strconv.Itoa2
import Derived.Shelf.Strconv.Itoa3
import Derived.Shelf.Sort.Plain
import Derived.Handy
set_option linter.unusedVariables false
set_option linter.unusedSimpArgs false
set_option maxRecDepth 10000
namespace Go.Proofs.YtpkmeknniajahaaGreatDoor.D1
open Go.ChangeShapes Go.WideShapes Go.ChangeAt Go.RowKit
theorem spec_pos (v : Nat) (hv : v ≠ 0) (hm : v ≤ 9223372036854775807) (w : World) :
  Calls Tryz.prog 48 #[.int .i64 (v : Int)] w fun e w' => e = .returned (.string ⟨(D0.dd v).toArray⟩) ∧ w' = w := by
 have hv1 : ¬ (v : Int) = 0 := by omega
 have hv2 : ¬ (v : Int) < 0 := by omega
 have hlen := D0.dd_length v (by omega)
 go_enter Tryz.func48, Tryz.ntmps48
 go_wp2
 go_loop [3, 4] (fun t i => ∃ (u : Nat) (out : List UInt8), u ≤ v ∧ D0.dd u ++ out = D0.dd v ∧ i = .int .i64 (u : Int) ∧ t = .string ⟨out.toArray⟩) (fun _ i => (intOf i).toNat)
 case atStart => exact ⟨v, [], Nat.le_refl _, by simp, rfl, rfl⟩
 case round =>
  obtain ⟨u, out, hu, he, rfl, rfl⟩ := hrel
  by_cases h0 : u = 0
  ·subst h0
   have he' : out = D0.dd v := by simpa [D0.dd] using he
   clear he
   subst he'
   go_wp2
   go_ret
   exact ⟨rfl, rfl⟩
  ·have hs : (D0.dig ((u : Int) % 10)).size + (⟨out.toArray⟩ : ByteArray).size ≤ 9223372036854775807 := by
    have := congrArg List.length he
    simp at this
    rw [D0.dig_size]
    show 1 + out.toArray.size ≤ _
    simp
    omega
   have hu1 : ¬ (u : Int) = 0 := by omega
   have hu2 : ¬ (u : Int) % 10 < 0 := by omega
   have hdg := D0.dig_slice (P := Tryz.prog) 9 Tryz.underlying9 ((u : Int) % 10) (by omega) (by omega)
   have hHe : Hid (D0.dd u ++ out = D0.dd v) := he
   clear he
   go_wp2
   go_round
   case rel => exact ⟨u / 10, UInt8.ofNat (48 + u % 10) :: out, by omega, D0.round_eq u v out h0 hHe.out, by go_num, by rw [D0.dig_cons]; rfl⟩
   case measure => simp [intOf]; omega
theorem spec_neg (v : Nat) (hv : v ≠ 0) (hm : v ≤ 9223372036854775808) (w : World) :
  Calls Tryz.prog 48 #[.int .i64 (-(v : Int))] w fun e w' => e = .returned (.string ⟨(45 :: D0.dd v).toArray⟩) ∧ w' = w := by
 have hv1 : ¬ (-(v : Int)) = 0 := by omega
 have hv2 : (-(v : Int)) < 0 := by omega
 have hlen := D0.dd_length v (by omega)
 go_enter Tryz.func48, Tryz.ntmps48
 go_wp2
 go_loop [3, 4] (fun t i => ∃ (u : Nat) (out : List UInt8), u ≤ v ∧ D0.dd u ++ out = D0.dd v ∧ i = .int .i64 (-(u : Int)) ∧ t = .string ⟨out.toArray⟩) (fun _ i => (-(intOf i)).toNat)
 case atStart => exact ⟨v, [], Nat.le_refl _, by simp, rfl, rfl⟩
 case round =>
  obtain ⟨u, out, hu, he, rfl, rfl⟩ := hrel
  by_cases h0 : u = 0
  ·subst h0
   have he' : out = D0.dd v := by simpa [D0.dd] using he
   clear he
   subst he'
   have hs : (⟨#[45]⟩ : ByteArray).size + (⟨(D0.dd v).toArray⟩ : ByteArray).size ≤ 9223372036854775807 := by
    show 1 + (D0.dd v).toArray.size ≤ _
    simp
    omega
   go_wp2
   go_ret
   exact ⟨D0.ret_minus _, rfl⟩
  ·have hu1 : ¬ (-(u : Int)) = 0 := by omega
   have hsz : out.length ≤ 21 := by
    have := congrArg List.length he
    simp at this
    omega
   have hHe : Hid (D0.dd u ++ out = D0.dd v) := he
   clear he
   by_cases hz : 0 < (u : Int) % 10
   ·have hs : (D0.dig ((u : Int) % 10)).size + (⟨out.toArray⟩ : ByteArray).size ≤ 9223372036854775807 := by
     rw [D0.dig_size]
     show 1 + out.toArray.size ≤ _
     simp
     omega
    have hdg := D0.dig_slice (P := Tryz.prog) 9 Tryz.underlying9 ((u : Int) % 10) (by omega) (by omega)
    go_wp2
    go_round
    case rel => exact ⟨u / 10, UInt8.ofNat (48 + u % 10) :: out, by omega, D0.round_eq u v out h0 hHe.out, by go_num, by rw [D0.dig_cons]; rfl⟩
    case measure => simp [intOf]; omega
   ·have hz' : (u : Int) % 10 ≤ 0 := by omega
    have hs : (D0.dig (-((u : Int) % 10))).size + (⟨out.toArray⟩ : ByteArray).size ≤ 9223372036854775807 := by
     rw [D0.dig_size]
     show 1 + out.toArray.size ≤ _
     simp
     omega
    have hdg := D0.dig_slice (P := Tryz.prog) 9 Tryz.underlying9 (-((u : Int) % 10)) (by omega) (by omega)
    go_wp2
    go_round
    case rel => exact ⟨u / 10, UInt8.ofNat (48 + u % 10) :: out, by omega, D0.round_eq u v out h0 hHe.out, by go_num, by rw [D0.dig_cons, show (-((u : Int) % 10)).toNat = u % 10 by omega]⟩
    case measure => simp [intOf]; omega
theorem spec_DecText (n : Int) (hn : (Lit.int .i64 n).wf = true) (w : World) :
  Calls Tryz.prog 48 #[.int .i64 n] w fun e w' => e = .returned (.string ⟨(Lib.itoa n).toArray⟩) ∧ w' = w := by
 have hb : -9223372036854775808 ≤ n ∧ n ≤ 9223372036854775807 := by simpa [Lit.wf, IntKind.min, IntKind.max, IntKind.signed, IntKind.bits] using hn
 by_cases h0 : n = 0
 ·subst h0
  have e : Lib.itoa 0 = [48] := by unfold Lib.itoa; rw [if_neg (by omega)]; exact Lib.decDigits_one (by omega)
  rw [e]
  go_enter Tryz.func48, Tryz.ntmps48
  go_wp2
  go_ret
  exact ⟨rfl, rfl⟩
 ·by_cases h1 : 0 < n
  ·obtain ⟨v, rfl⟩ : ∃ v : Nat, n = (v : Int) := ⟨n.toNat, by omega⟩
   rw [D0.itoa_pos v (by omega)]
   exact spec_pos v (by omega) (by omega) w
  ·obtain ⟨v, rfl⟩ : ∃ v : Nat, n = -(v : Int) := ⟨n.natAbs, by omega⟩
   rw [D0.itoa_neg v (by omega)]
   exact spec_neg v (by omega) (by omega) w
end Go.Proofs.YtpkmeknniajahaaGreatDoor.D1
namespace Go.Proofs
open Go.Shelf
def Tryz.lays106_ren : Go.Shelf.Ren := ⟨fun | 106 => 45 | 213 => 75 | 265 => 105 | n => n, fun | 9 => 9 | 3 => 3 | n => n, fun | n => n⟩
theorem Tryz.lays106 : Go.Proofs.Lays.n106 Tryz.prog Tryz.lays106_ren := {
 mixed := by kernel_rfl
 f106 := Tryz.func45.trans (congrArg some (by kernel_rfl))
 f213 := Tryz.func75.trans (congrArg some (by kernel_rfl))
 f265 := Tryz.func105.trans (congrArg some (by kernel_rfl))
 t3 := Tryz.underlying3
 a3 := Tryz.isAgg3
 z3 := Tryz.sizeOf3
 v3 := Tryz.zeroValue3
 t9 := Tryz.underlying9
 a9 := Tryz.isAgg9
 z9 := Tryz.sizeOf9
 v9 := Tryz.zeroValue9 }
open Go.RowKit in
theorem Tryz.strings_Compare (a b : ByteArray) (w : World) :
  Calls Tryz.prog 45 #[.string a, .string b] w fun e w' => e = .returned (.int .i64 (Lib.compareBytes a.data.toList b.data.toList)) ∧ w' = w := Any.strings_Compare Tryz.lays106 a b w
def Tryz.laysM316_ren : Go.Shelf.Ren := ⟨fun | 316 => 112 | n => n, fun | 9 => 9 | 3 => 3 | 4 => 4 | 37 => 22 | 0 => 0 | 127 => 158 | 5 => 5 | n => n, fun | n => n⟩
theorem Tryz.laysM316 : Go.Proofs.LaysM.n316 Tryz.prog Tryz.laysM316_ren := {
 mixed := by kernel_rfl
 f316 := Tryz.func112.trans (congrArg some (by kernel_rfl))
 t0 := Tryz.underlying0
 a0 := Tryz.isAgg0
 z0 := Tryz.sizeOf0
 v0 := Tryz.zeroValue0
 t3 := Tryz.underlying3
 a3 := Tryz.isAgg3
 z3 := Tryz.sizeOf3
 v3 := Tryz.zeroValue3
 t4 := Tryz.underlying4
 a4 := Tryz.isAgg4
 z4 := Tryz.sizeOf4
 v4 := Tryz.zeroValue4
 t9 := Tryz.underlying9
 a9 := Tryz.isAgg9
 z9 := Tryz.sizeOf9
 v9 := Tryz.zeroValue9
 t37 := Tryz.underlying22
 a37 := Tryz.isAgg22
 z37 := Tryz.sizeOf22
 v37 := Tryz.zeroValue22
 t127 := Tryz.underlying158
 a127 := Tryz.isAgg158
 z127 := Tryz.sizeOf158
 v127 := Tryz.zeroValue158
 t5 := Tryz.underlying5
 a5 := Tryz.isAgg5
 z5 := Tryz.sizeOf5
 v5 := Tryz.zeroValue5
 i0 := by kernel_rfl
 i3 := by kernel_rfl
 i4 := by kernel_rfl
 i5 := by kernel_rfl
 i9 := by kernel_rfl
 i37 := by kernel_rfl
 i127 := by kernel_rfl }
open Go.RowKit in
theorem Tryz.stringslite_Clone (s : ByteArray) (w : World) (hlim : s.size ≤ 281474976710656) :
  Calls Tryz.prog 112 #[.string s] w fun e w' => e = .returned (.string s) ∧ Below w.heap.size w w' := Any.stringslite_Clone Tryz.laysM316 s w hlim
def Tryz.lays107_ren : Go.Shelf.Ren := ⟨fun | 107 => 185 | 108 => 186 | n => n, fun | 28 => 28 | 3 => 3 | 4 => 4 | 0 => 0 | n => n, fun | n => n⟩
theorem Tryz.lays107 : Go.Proofs.Lays.n107 Tryz.prog Tryz.lays107_ren := {
 mixed := by kernel_rfl
 f107 := Tryz.func185.trans (congrArg some (by kernel_rfl))
 f108 := Tryz.func186.trans (congrArg some (by kernel_rfl))
 t0 := Tryz.underlying0
 a0 := Tryz.isAgg0
 z0 := Tryz.sizeOf0
 v0 := Tryz.zeroValue0
 t3 := Tryz.underlying3
 a3 := Tryz.isAgg3
 z3 := Tryz.sizeOf3
 v3 := Tryz.zeroValue3
 t4 := Tryz.underlying4
 a4 := Tryz.isAgg4
 z4 := Tryz.sizeOf4
 v4 := Tryz.zeroValue4
 t28 := Tryz.underlying28
 a28 := Tryz.isAgg28
 z28 := Tryz.sizeOf28
 v28 := Tryz.zeroValue28 }
open Go.Lib in
theorem Tryz.slices_Contains_int (b off n c : Nat) (zs : List Int) (x : Int) (w : World) (hz : n ≤ zs.length) (hbig : n ≤ 9223372036854775807) (hc : ∀ j, j < zs.length → w.cell? ⟨b, off + j, none⟩ = some (.int .i64 (zs.getD j 0))) :
  Calls Tryz.prog 185 #[.slice (some ⟨b, off, none⟩) n c, .int .i64 x] w fun e w' => e = .returned (.bool ((zs.take n).contains x)) ∧ w' = w := Any.slices_Contains_int Tryz.lays107 b off n c zs x w hz hbig hc
def Tryz.laysNm215_ren : Go.Shelf.Ren := ⟨fun | 15 => 87 | n => n, fun | 22 => 28 | 3 => 3 | 4 => 4 | n => n, fun | n => n⟩
theorem Tryz.laysNm215 : Go.Proofs.Lays2.n15 Tryz.prog Tryz.laysNm215_ren := {
 mixed := by kernel_rfl
 f15 := Tryz.func87.trans (congrArg some (by kernel_rfl))
 t3 := Tryz.underlying3
 a3 := Tryz.isAgg3
 z3 := Tryz.sizeOf3
 v3 := Tryz.zeroValue3
 t4 := Tryz.underlying4
 a4 := Tryz.isAgg4
 z4 := Tryz.sizeOf4
 v4 := Tryz.zeroValue4
 t22 := Tryz.underlying28
 a22 := Tryz.isAgg28
 z22 := Tryz.sizeOf28
 v22 := Tryz.zeroValue28
 i3 := by kernel_rfl }
open Go.RowKit Go.Lib in
theorem Tryz.slices_Clone_int (b off n c : Nat) (zs : List Int) (w : World) (hz : n ≤ zs.length) (hbig : n * 8 ≤ 140737488355328) (hc : ∀ j, j < zs.length → w.cell? ⟨b, off + j, none⟩ = some (.int .i64 (zs.getD j 0))) :
  Calls Tryz.prog 87 #[.slice (some ⟨b, off, none⟩) n c] w fun e w' => ∃ v', e = .returned v' ∧ w'.ownsRow w.heap.size 3 1 v' n ((zs.take n).map (Value.int .i64)) ∧ v' ≠ .slice none 0 0 ∧ Below w.heap.size w w' := Any.slices_Clone_int Tryz.laysNm215 b off n c zs w hz hbig hc
def Tryz.laysNm220_ren : Go.Shelf.Ren := ⟨fun | 20 => 86 | n => n, fun | 22 => 28 | 3 => 3 | 4 => 4 | 0 => 0 | n => n, fun | n => n⟩
theorem Tryz.laysNm220 : Go.Proofs.Lays2.n20 Tryz.prog Tryz.laysNm220_ren := {
 mixed := by kernel_rfl
 f20 := Tryz.func86.trans (congrArg some (by kernel_rfl))
 t0 := Tryz.underlying0
 a0 := Tryz.isAgg0
 z0 := Tryz.sizeOf0
 v0 := Tryz.zeroValue0
 t3 := Tryz.underlying3
 a3 := Tryz.isAgg3
 z3 := Tryz.sizeOf3
 v3 := Tryz.zeroValue3
 t4 := Tryz.underlying4
 a4 := Tryz.isAgg4
 z4 := Tryz.sizeOf4
 v4 := Tryz.zeroValue4
 t22 := Tryz.underlying28
 a22 := Tryz.isAgg28
 z22 := Tryz.sizeOf28
 v22 := Tryz.zeroValue28
 i3 := by kernel_rfl }
open Go.RowKit Go.Lib Go.Sort in
theorem Tryz.slices_Compact_int (blk off cap : Nat) (zs : List Int) (w : World) (hH : Holds (Value.int .i64) w blk off zs.toArray) (hsz : zs.length ≤ 9223372036854775807) (hcap : zs.length ≤ cap) :
  Calls Tryz.prog 86 #[.slice (some ⟨blk, off, none⟩) zs.length cap] w fun e w' => e = .returned (.slice (some ⟨blk, off, none⟩) (Lib.compact zs).length cap) ∧ ∃ q, w' = putRow (Value.int .i64) (Sort.ahead w q) blk off (Lib.compact zs ++ List.replicate (zs.length - (Lib.compact zs).length) 0).toArray := Any.slices_Compact_int Tryz.laysNm220 blk off cap zs w hH hsz hcap
end Go.Proofs
namespace Go.Proofs
open Go.Shelf
def Tryz.lays156_ren : Go.Shelf.Ren := ⟨fun | 156 => 76 | 165 => 106 | 166 => 107 | 169 => 108 | 240 => 132 | 241 => 133 | 276 => 148 | 277 => 149 | n => n, fun | 31 => 53 | 9 => 9 | 3 => 3 | 4 => 4 | 0 => 0 | 20 => 20 | 72 => 131 | 76 => 135 | 70 => 129 | 37 => 22 | 75 => 134 | 127 => 158 | 164 => 170 | 5 => 5 | 80 => 137 | n => n, fun | n => n⟩
theorem Tryz.lays156 : Go.Proofs.Lays.n156 Tryz.prog Tryz.lays156_ren := {
 mixed := by kernel_rfl
 f156 := Tryz.func76.trans (congrArg some (by kernel_rfl))
 f165 := Tryz.func106.trans (congrArg some (by kernel_rfl))
 f166 := Tryz.func107.trans (congrArg some (by kernel_rfl))
 f169 := Tryz.func108.trans (congrArg some (by kernel_rfl))
 f240 := Tryz.func132.trans (congrArg some (by kernel_rfl))
 f241 := Tryz.func133.trans (congrArg some (by kernel_rfl))
 f276 := Tryz.func148.trans (congrArg some (by kernel_rfl))
 f277 := Tryz.func149.trans (congrArg some (by kernel_rfl))
 t0 := Tryz.underlying0
 a0 := Tryz.isAgg0
 z0 := Tryz.sizeOf0
 v0 := Tryz.zeroValue0
 t3 := Tryz.underlying3
 a3 := Tryz.isAgg3
 z3 := Tryz.sizeOf3
 v3 := Tryz.zeroValue3
 t4 := Tryz.underlying4
 a4 := Tryz.isAgg4
 z4 := Tryz.sizeOf4
 v4 := Tryz.zeroValue4
 t9 := Tryz.underlying9
 a9 := Tryz.isAgg9
 z9 := Tryz.sizeOf9
 v9 := Tryz.zeroValue9
 t20 := Tryz.underlying20
 a20 := Tryz.isAgg20
 z20 := Tryz.sizeOf20
 v20 := Tryz.zeroValue20
 t31 := Tryz.underlying53
 a31 := Tryz.isAgg53
 z31 := Tryz.sizeOf53
 v31 := Tryz.zeroValue53
 t37 := Tryz.underlying22
 a37 := Tryz.isAgg22
 z37 := Tryz.sizeOf22
 v37 := Tryz.zeroValue22
 t70 := Tryz.underlying129
 a70 := Tryz.isAgg129
 z70 := Tryz.sizeOf129
 v70 := Tryz.zeroValue129
 t72 := Tryz.underlying131
 a72 := Tryz.isAgg131
 z72 := Tryz.sizeOf131
 v72 := Tryz.zeroValue131
 t75 := Tryz.underlying134
 a75 := Tryz.isAgg134
 z75 := Tryz.sizeOf134
 v75 := Tryz.zeroValue134
 t76 := Tryz.underlying135
 a76 := Tryz.isAgg135
 z76 := Tryz.sizeOf135
 v76 := Tryz.zeroValue135
 t127 := Tryz.underlying158
 a127 := Tryz.isAgg158
 z127 := Tryz.sizeOf158
 v127 := Tryz.zeroValue158
 t164 := Tryz.underlying170
 a164 := Tryz.isAgg170
 z164 := Tryz.sizeOf170
 v164 := Tryz.zeroValue170 }
theorem Tryz.Builder_Extra_156 : Builder.Extra Tryz.prog Tryz.lays156_ren := {
 sizeBuilder := by kernel_rfl
 liesBuilder := by kernel_rfl
 t5 := Tryz.underlying5
 a5 := Tryz.isAgg5
 z5 := Tryz.sizeOf5
 v5 := Tryz.zeroValue5
 infoByte := by kernel_rfl
 cellsByte := by kernel_rfl
 sizeByte := by kernel_rfl
 neB5 := by decide }
open Go.RowKit in
theorem Tryz.strings_Join (bk o c : Nat) (xs : List ByteArray) (sep : ByteArray) (w : World) (hcells : ∀ (j : Nat) x, xs[j]? = some x → w.cell? ⟨bk, o + j, none⟩ = some (.string x)) (hbk : bk < w.heap.size) (hN : xs.length ≤ 140737488355328) (hcap : xs.length ≤ c) (hlen : (Lib.join (xs.map (·.data.toList)) sep.data.toList).length ≤ 140737488355328) :
  Calls Tryz.prog 76 #[.slice (some ⟨bk, o, none⟩) xs.length c, .string sep] w fun e w' => e = .returned (.string ⟨(Lib.join (xs.map (·.data.toList)) sep.data.toList).toArray⟩) ∧ Below w.heap.size w w' := Any.strings_Join Tryz.lays156 Tryz.Builder_Extra_156 bk o c xs sep w hcells hbk hN hcap hlen
def Tryz.laysM171_ren : Go.Shelf.Ren := ⟨fun | 171 => 109 | 243 => 134 | 246 => 150 | 283 => 153 | 284 => 154 | 285 => 155 | 286 => 156 | 129 => 104 | 317 => 157 | 318 => 158 | 319 => 159 | 320 => 160 | 337 => 161 | 338 => 162 | n => n, fun | 3 => 3 | 9 => 9 | 2 => 2 | 4 => 4 | 171 => 176 | 0 => 0 | 53 => 128 | 37 => 22 | 5 => 5 | 173 => 178 | 212 => 181 | 51 => 126 | 20 => 20 | 213 => 182 | 46 => 97 | 232 => 183 | 233 => 184 | n => n, fun | 17 => 2 | 18 => 3 | 19 => 4 | n => n⟩
theorem Tryz.laysM171 : Go.Proofs.LaysM.n171 Tryz.prog Tryz.laysM171_ren := {
 mixed := by kernel_rfl
 f129 := Tryz.func104.trans (congrArg some (by kernel_rfl))
 f171 := Tryz.func109.trans (congrArg some (by kernel_rfl))
 f243 := Tryz.func134.trans (congrArg some (by kernel_rfl))
 f246 := Tryz.func150.trans (congrArg some (by kernel_rfl))
 f283 := Tryz.func153.trans (congrArg some (by kernel_rfl))
 f284 := Tryz.func154.trans (congrArg some (by kernel_rfl))
 f285 := Tryz.func155.trans (congrArg some (by kernel_rfl))
 f286 := Tryz.func156.trans (congrArg some (by kernel_rfl))
 f317 := Tryz.func157.trans (congrArg some (by kernel_rfl))
 f318 := Tryz.func158.trans (congrArg some (by kernel_rfl))
 f319 := Tryz.func159.trans (congrArg some (by kernel_rfl))
 f320 := Tryz.func160.trans (congrArg some (by kernel_rfl))
 f337 := Tryz.func161.trans (congrArg some (by kernel_rfl))
 f338 := Tryz.func162.trans (congrArg some (by kernel_rfl))
 t0 := Tryz.underlying0
 a0 := Tryz.isAgg0
 z0 := Tryz.sizeOf0
 v0 := Tryz.zeroValue0
 t2 := Tryz.underlying2
 a2 := Tryz.isAgg2
 z2 := Tryz.sizeOf2
 v2 := Tryz.zeroValue2
 t3 := Tryz.underlying3
 a3 := Tryz.isAgg3
 z3 := Tryz.sizeOf3
 v3 := Tryz.zeroValue3
 t4 := Tryz.underlying4
 a4 := Tryz.isAgg4
 z4 := Tryz.sizeOf4
 v4 := Tryz.zeroValue4
 t5 := Tryz.underlying5
 a5 := Tryz.isAgg5
 z5 := Tryz.sizeOf5
 v5 := Tryz.zeroValue5
 t9 := Tryz.underlying9
 a9 := Tryz.isAgg9
 z9 := Tryz.sizeOf9
 v9 := Tryz.zeroValue9
 t20 := Tryz.underlying20
 a20 := Tryz.isAgg20
 z20 := Tryz.sizeOf20
 v20 := Tryz.zeroValue20
 t37 := Tryz.underlying22
 a37 := Tryz.isAgg22
 z37 := Tryz.sizeOf22
 v37 := Tryz.zeroValue22
 t46 := Tryz.underlying97
 a46 := Tryz.isAgg97
 z46 := Tryz.sizeOf97
 v46 := Tryz.zeroValue97
 t51 := Tryz.underlying126
 a51 := Tryz.isAgg126
 z51 := Tryz.sizeOf126
 v51 := Tryz.zeroValue126
 t53 := Tryz.underlying128
 a53 := Tryz.isAgg128
 z53 := Tryz.sizeOf128
 v53 := Tryz.zeroValue128
 t171 := Tryz.underlying176
 a171 := Tryz.isAgg176
 z171 := Tryz.sizeOf176
 v171 := Tryz.zeroValue176
 t173 := Tryz.underlying178
 a173 := Tryz.isAgg178
 z173 := Tryz.sizeOf178
 v173 := Tryz.zeroValue178
 t212 := Tryz.underlying181
 a212 := Tryz.isAgg181
 z212 := Tryz.sizeOf181
 v212 := Tryz.zeroValue181
 t213 := Tryz.underlying182
 a213 := Tryz.isAgg182
 z213 := Tryz.sizeOf182
 t232 := Tryz.underlying183
 a232 := Tryz.isAgg183
 z232 := Tryz.sizeOf183
 v232 := Tryz.zeroValue183
 t233 := Tryz.underlying184
 a233 := Tryz.isAgg184
 z233 := Tryz.sizeOf184
 v233 := Tryz.zeroValue184
 g17 := by kernel_rfl
 g18 := by kernel_rfl
 g19 := by kernel_rfl
 i0 := by kernel_rfl
 i2 := by kernel_rfl
 i3 := by kernel_rfl
 i4 := by kernel_rfl
 i5 := by kernel_rfl
 i9 := by kernel_rfl
 i20 := by kernel_rfl
 i37 := by kernel_rfl
 i46 := by kernel_rfl
 i51 := by kernel_rfl
 i53 := by kernel_rfl
 i171 := by kernel_rfl
 i173 := by kernel_rfl
 i212 := by kernel_rfl
 i232 := by kernel_rfl
 i233 := by kernel_rfl
 m17 := by kernel_rfl
 m18 := by kernel_rfl
 m19 := by kernel_rfl }
open Go.RowKit Go.Sort Go.Lib in
theorem Tryz.strconv_Itoa (n : Int) (h0 : -9223372036854775808 ≤ n) (h1 : n ≤ 9223372036854775807) (w : World) (htab : Lib.TabIs Tryz.prog w "internal/strconv.uint64pow10" .u64 Lib.pow10Tab) :
  Calls Tryz.prog 109 #[.int .i64 n] w fun e w' => e = .returned (.string ⟨(Lib.itoa n).toArray⟩) ∧ ∃ k os, w' = grow (w.drewN k) os := Any.strconv_Itoa Tryz.laysM171 n h0 h1 w htab
def Tryz.lays189_ren : Go.Shelf.Ren := ⟨fun | 189 => 62 | 125 => 74 | 257 => 89 | 128 => 103 | 129 => 104 | 294 => 118 | 295 => 119 | 296 => 120 | 297 => 121 | 298 => 122 | 299 => 123 | 216 => 124 | 300 => 125 | 301 => 126 | 328 => 143 | 329 => 128 | 330 => 129 | 331 => 144 | 332 => 145 | 215 => 146 | 343 => 152 | n => n, fun | 28 => 28 | 3 => 3 | 46 => 97 | 0 => 0 | 51 => 126 | 53 => 128 | 4 => 4 | 183 => 120 | 182 => 119 | 131 => 108 | 5 => 5 | 9 => 9 | 218 => 152 | 222 => 156 | 228 => 167 | 229 => 168 | n => n, fun | n => n⟩
theorem Tryz.lays189 : Go.Proofs.Lays.n189 Tryz.prog Tryz.lays189_ren := {
 mixed := by kernel_rfl
 f125 := Tryz.func74.trans (congrArg some (by kernel_rfl))
 f128 := Tryz.func103.trans (congrArg some (by kernel_rfl))
 f129 := Tryz.func104.trans (congrArg some (by kernel_rfl))
 f189 := Tryz.func62.trans (congrArg some (by kernel_rfl))
 f215 := Tryz.func146.trans (congrArg some (by kernel_rfl))
 f216 := Tryz.func124.trans (congrArg some (by kernel_rfl))
 f257 := Tryz.func89.trans (congrArg some (by kernel_rfl))
 f294 := Tryz.func118.trans (congrArg some (by kernel_rfl))
 f295 := Tryz.func119.trans (congrArg some (by kernel_rfl))
 f296 := Tryz.func120.trans (congrArg some (by kernel_rfl))
 f297 := Tryz.func121.trans (congrArg some (by kernel_rfl))
 f298 := Tryz.func122.trans (congrArg some (by kernel_rfl))
 f299 := Tryz.func123.trans (congrArg some (by kernel_rfl))
 f300 := Tryz.func125.trans (congrArg some (by kernel_rfl))
 f301 := Tryz.func126.trans (congrArg some (by kernel_rfl))
 f328 := Tryz.func143.trans (congrArg some (by kernel_rfl))
 f329 := Tryz.func128.trans (congrArg some (by kernel_rfl))
 f330 := Tryz.func129.trans (congrArg some (by kernel_rfl))
 f331 := Tryz.func144.trans (congrArg some (by kernel_rfl))
 f332 := Tryz.func145.trans (congrArg some (by kernel_rfl))
 f343 := Tryz.func152.trans (congrArg some (by kernel_rfl))
 t0 := Tryz.underlying0
 a0 := Tryz.isAgg0
 z0 := Tryz.sizeOf0
 v0 := Tryz.zeroValue0
 t3 := Tryz.underlying3
 a3 := Tryz.isAgg3
 z3 := Tryz.sizeOf3
 v3 := Tryz.zeroValue3
 t4 := Tryz.underlying4
 a4 := Tryz.isAgg4
 z4 := Tryz.sizeOf4
 v4 := Tryz.zeroValue4
 t5 := Tryz.underlying5
 a5 := Tryz.isAgg5
 z5 := Tryz.sizeOf5
 v5 := Tryz.zeroValue5
 t9 := Tryz.underlying9
 a9 := Tryz.isAgg9
 z9 := Tryz.sizeOf9
 v9 := Tryz.zeroValue9
 t28 := Tryz.underlying28
 a28 := Tryz.isAgg28
 z28 := Tryz.sizeOf28
 v28 := Tryz.zeroValue28
 t46 := Tryz.underlying97
 a46 := Tryz.isAgg97
 z46 := Tryz.sizeOf97
 v46 := Tryz.zeroValue97
 t51 := Tryz.underlying126
 a51 := Tryz.isAgg126
 z51 := Tryz.sizeOf126
 v51 := Tryz.zeroValue126
 t53 := Tryz.underlying128
 a53 := Tryz.isAgg128
 z53 := Tryz.sizeOf128
 v53 := Tryz.zeroValue128
 t131 := Tryz.underlying108
 a131 := Tryz.isAgg108
 z131 := Tryz.sizeOf108
 v131 := Tryz.zeroValue108
 t182 := Tryz.underlying119
 a182 := Tryz.isAgg119
 z182 := Tryz.sizeOf119
 v182 := Tryz.zeroValue119
 t183 := Tryz.underlying120
 a183 := Tryz.isAgg120
 z183 := Tryz.sizeOf120
 v183 := Tryz.zeroValue120
 t218 := Tryz.underlying152
 a218 := Tryz.isAgg152
 z218 := Tryz.sizeOf152
 v218 := Tryz.zeroValue152
 t222 := Tryz.underlying156
 a222 := Tryz.isAgg156
 z222 := Tryz.sizeOf156
 v222 := Tryz.zeroValue156
 t228 := Tryz.underlying167
 a228 := Tryz.isAgg167
 z228 := Tryz.sizeOf167
 v228 := Tryz.zeroValue167
 t229 := Tryz.underlying168
 a229 := Tryz.isAgg168
 z229 := Tryz.sizeOf168
 v229 := Tryz.zeroValue168 }
open Go.Sort Go.RowKit in
theorem Tryz.slices_Sort_int (blk off cap : Nat) (zs : List Int) (w : World) (hH : Holds (Value.int .i64) w blk off zs.toArray) (hblk : blk < w.heap.size) (hsz : zs.length < 4611686018427387904) :
  Calls Tryz.prog 62 #[.slice (some ⟨blk, off, none⟩) zs.length cap] w fun e w' =>
   e = .returned (.tuple #[]) ∧ ∃ n os, w' = grow (putRow (Value.int .i64) (Sort.ahead w n) blk off (zs.mergeSort fun x y => decide (x ≤ y)).toArray) os := Any.slices_Sort_int Tryz.lays189 blk off cap zs w hH hblk hsz
end Go.Proofs
namespace Go.Proofs.YtpkmeknniajahaaGreatDoor.D1
open Go.ChangeShapes Go.WideShapes Go.ChangeAt Go.RowKit
theorem impl_DecText (n : Int) (hn : (Lit.int .i64 n).wf = true) (w : World) (htab : Lib.TabIs Tryz.prog w "internal/strconv.uint64pow10" .u64 Lib.pow10Tab) :
  Calls Tryz.prog 77 #[.int .i64 n] w fun e w' => e = .returned (.string ⟨(Lib.itoa n).toArray⟩) ∧ Below w.heap.size w w' := by
 have hb : -9223372036854775808 ≤ n ∧ n ≤ 9223372036854775807 := by simpa [Lit.wf, IntKind.min, IntKind.max, IntKind.signed, IntKind.bits] using hn
 go_enter Tryz.func77, Tryz.ntmps77
 go_wp2_with (go_at_call 109; refine (Tryz.strconv_Itoa _ hb.1 hb.2 _ htab).mono ?_; rintro e w' ⟨rfl, k, os, rfl⟩)
 go_ret
 exact ⟨rfl, L0.below_grow k os⟩
end Go.Proofs.YtpkmeknniajahaaGreatDoor.D1
namespace Go.Proofs.YtpkmeknniajahaaGreatDoor.B1
open Go.ChangeShapes Go.WideShapes Go.ChangeAt Go.RowKit
def inB (x a b : Int) : Bool := decide (a ≤ x ∧ x ≤ b)
theorem inB_true {x a b : Int} (h : inB x a b = true) : a ≤ x ∧ x ≤ b := by simpa [inB] using h
theorem inB_false {x a b : Int} (h : inB x a b = false) : ¬ (a ≤ x ∧ x ≤ b) := by simpa [inB] using h
theorem l01In_any (x a b : Int) (w : World) :
  Calls Tryz.prog 70 #[.int .i64 x, .int .i64 a, .int .i64 b] w fun e w' => e = .returned (.bool (inB x a b)) ∧ w' = w := by
 by_cases h1 : a ≤ x
 ·by_cases h2 : x ≤ b
  ·have e : inB x a b = true := by simp [inB, h1, h2]
   rw [e]
   go_enter Tryz.func70, Tryz.ntmps70
   go_wp2
   go_ret
   exact ⟨rfl, rfl⟩
  ·have e : inB x a b = false := by simp [inB, h2]
   have h2' : decide (x ≤ b) = false := by simpa using h2
   rw [e]
   go_enter Tryz.func70, Tryz.ntmps70
   go_wp2
   go_ret
   exact ⟨rfl, rfl⟩
 ·have e : inB x a b = false := by simp [inB, h1]
  have h1' : decide (a ≤ x) = false := by simpa using h1
  rw [e]
  go_enter Tryz.func70, Tryz.ntmps70
  go_wp2
  go_ret
  exact ⟨rfl, rfl⟩
end Go.Proofs.YtpkmeknniajahaaGreatDoor.B1
namespace Go.Proofs.YtpkmeknniajahaaGreatDoor.B4
open Go.ChangeShapes Go.WideShapes Go.ChangeAt Go.RowKit
def nulls (k : Nat) : ByteArray := ⟨Array.replicate k 0⟩
def zeros (n : Int) : ByteArray := if n ≤ 5000 then nulls n.toNat else ⟨#[]⟩
theorem nulls_succ (k : Nat) : nulls k ++ ⟨#[0]⟩ = nulls (k + 1) := by
 apply ByteArray.ext
 simp [nulls, Array.replicate_succ]
theorem nulls_size (k : Nat) : (nulls k).size = k := by simp [nulls, ByteArray.size]
theorem info8 : (Tryz.prog.info? 5).map (fun i => (i.zero, i.size, i.bytes)) = some (some (.int .u8 0), 1, 1) := by kernel_rfl
theorem spec_Zeros (n : Int) (w : World) :
  Calls Tryz.prog 40 #[.int .i64 n] w fun e w' => e = .returned (.string (zeros n)) ∧ w' = w := by
 by_cases h : n ≤ 5000
 ·have e : zeros n = nulls n.toNat := by rw [zeros, if_pos h]
  rw [e]
  go_enter Tryz.func40, Tryz.ntmps40
  go_wp2
  go_loop [3, 4] (fun t i => ∃ k : Nat, k ≤ n.toNat ∧ i = .int .i64 k ∧ t = .string (nulls k)) (fun _ i => n.toNat - (intOf i).toNat)
  case atStart => exact ⟨0, Nat.zero_le _, rfl, rfl⟩
  case round =>
   obtain ⟨k, hk, rfl, rfl⟩ := hrel
   by_cases hlt : (k : Int) < n
   ·have hz : (nulls k).size + 1 ≤ 9223372036854775807 := by rw [nulls_size]; omega
    go_wp2
    go_round
    case rel => exact ⟨k + 1, by omega, by go_num, by first | rfl | rw [← nulls_succ]⟩
    case measure => simp [intOf]; omega
   ·have hf : decide ((k : Int) < n) = false := by simpa using hlt
    go_wp2
    go_ret
    have hk' : k = n.toNat := by omega
    exact ⟨by rw [← hk']; rfl, rfl⟩
 ·have e : zeros n = ⟨#[]⟩ := by rw [zeros, if_neg h]
  have hf : decide (n ≤ 5000) = false := by simpa using h
  rw [e]
  go_enter Tryz.func40, Tryz.ntmps40
  go_wp2
  go_loop [3, 4] (fun t i => i = .int .i64 0 ∧ t = .string ⟨#[]⟩) (fun _ _ => 0)
  case atStart => exact ⟨rfl, rfl⟩
  case round =>
   obtain ⟨rfl, rfl⟩ := hrel
   go_wp2
   go_ret
   exact ⟨rfl, rfl⟩
set_option maxRecDepth 4000 in
theorem impl_Zeros (n : Int) (w : World) :
  Calls Tryz.prog 31 #[.int .i64 n] w fun e w' => e = .returned (.string (zeros n)) ∧ Below w.heap.size w w' := by
 by_cases h1 : n < 0
 ·have e : zeros n = ⟨#[]⟩ := by rw [zeros, if_pos (by omega), show n.toNat = 0 by omega]; rfl
  rw [e]
  go_enter Tryz.func31, Tryz.ntmps31
  go_wp2
  go_ret
  exact ⟨rfl, Below.refl _ _⟩
 ·by_cases h2 : 5000 < n
  ·have e : zeros n = ⟨#[]⟩ := by rw [zeros, if_neg (by omega)]
   rw [e]
   go_enter Tryz.func31, Tryz.ntmps31
   go_wp2
   go_ret
   exact ⟨rfl, Below.refl _ _⟩
  ·have e : zeros n = nulls n.toNat := by rw [zeros, if_pos (by omega)]
   rw [e]
   obtain ⟨i0, hi, hz0, hz1, hz2⟩ := info_parts info8
   obtain ⟨M, hM⟩ : ∃ M, M = madeCells (Value.int .u8 0).cells (n.toNat * i0.size) := ⟨_, rfl⟩
   have hmk : ∀ W : World, (Instr.makeSlice 22 (.int .i64 n) (.int .i64 n)).run Tryz.prog W = .ok (.slice (some ⟨W.heap.size, 0, none⟩) n.toNat n.toNat) (W.alloc (.cells M 5)) := fun W => by
    have h := run_make (P := Tryz.prog) W 22 5 i0 (.int .u8 0) Tryz.underlying22 hi hz0 .i64 .i64 n n (by omega) (by omega) (by rw [hz2]; omega) (by omega)
    rwa [← hM] at h
   have hcv : ∀ W : World, (convert 22 9 (.slice (some ⟨W.heap.size, 0, none⟩) n.toNat n.toNat)).run Tryz.prog (W.alloc (.cells M 5)) = .ok (.string (nulls n.toNat)) (W.alloc (.cells M 5)) := fun W => by
    have h := B0.conv_back (P := Tryz.prog) (W.alloc (.cells M 5)) 22 9 5 W.heap.size 0 n.toNat (List.replicate n.toNat 0) Tryz.underlying22 Tryz.underlying5 Tryz.underlying9
     (B0.holds_new _ _ _ _ _ fun j hj => by
      have hj' : j < n.toNat := by simpa using hj
      rw [hM, ← Array.getElem?_toList, show (Value.int .u8 0).cells = #[Value.int .u8 0] from rfl, toList_madeCells_one, hz1]
      simp [hj']) n.toNat (by simp)
    have e2 : (⟨(List.replicate n.toNat (0 : UInt8)).toArray⟩ : ByteArray) = nulls n.toNat := by simp [nulls]
    rwa [e2] at h
   clear hM
   clear hi hz0 hz1 hz2
   go_enter Tryz.func31, Tryz.ntmps31
   go_wp2
   go_ret
   exact ⟨rfl, by go_grown⟩
end Go.Proofs.YtpkmeknniajahaaGreatDoor.B4
namespace Go.Proofs.YtpkmeknniajahaaGreatDoor.B2
open Go.ChangeShapes Go.WideShapes Go.ChangeAt Go.RowKit
def lies (z : Nat) (i n : Int) : Bool := decide (0 ≤ i ∧ 0 ≤ n ∧ n ≤ (z : Int) - i)
theorem lies_true {z : Nat} {i n : Int} (h : lies z i n = true) : 0 ≤ i ∧ 0 ≤ n ∧ n ≤ (z : Int) - i := by simpa [lies] using h
theorem lies_false {z : Nat} {i n : Int} (h : lies z i n = false) : ¬ (0 ≤ i ∧ 0 ≤ n ∧ n ≤ (z : Int) - i) := of_decide_eq_false h
theorem liesIn_any (s : ByteArray) (i n : Int) (w : World) (hs : s.size ≤ maxLen) :
  Calls Tryz.prog 65 #[.string s, .int .i64 i, .int .i64 n] w fun e w' => e = .returned (.bool (lies s.size i n)) ∧ w' = w := by
 unfold maxLen at hs
 by_cases h1 : 0 ≤ i
 ·by_cases h2 : 0 ≤ n
  ·by_cases h3 : i ≤ (s.size : Int)
   ·by_cases h4 : n ≤ (s.size : Int) - i
    ·have e : lies s.size i n = true := decide_eq_true ⟨h1, h2, h4⟩
     rw [e]
     go_enter Tryz.func65, Tryz.ntmps65
     go_wp2
     go_ret
     exact ⟨rfl, rfl⟩
    ·have e : lies s.size i n = false := decide_eq_false fun h => h4 h.2.2
     have h4' : decide (n ≤ (s.size : Int) - i) = false := by simpa using h4
     rw [e]
     go_enter Tryz.func65, Tryz.ntmps65
     go_wp2
     go_ret
     exact ⟨rfl, rfl⟩
   ·have e : lies s.size i n = false := decide_eq_false fun h => by omega
    have h3' : decide (i ≤ (s.size : Int)) = false := by simpa using h3
    rw [e]
    go_enter Tryz.func65, Tryz.ntmps65
    go_wp2
    go_ret
    exact ⟨rfl, rfl⟩
  ·have e : lies s.size i n = false := decide_eq_false fun h => by omega
   have h2' : decide (0 ≤ n) = false := by simpa using h2
   rw [e]
   go_enter Tryz.func65, Tryz.ntmps65
   go_wp2
   go_ret
   exact ⟨rfl, rfl⟩
 ·have e : lies s.size i n = false := decide_eq_false fun h => by omega
  have h1' : decide (0 ≤ i) = false := by simpa using h1
  rw [e]
  go_enter Tryz.func65, Tryz.ntmps65
  go_wp2
  go_ret
  exact ⟨rfl, rfl⟩
def part (s : ByteArray) (i n : Int) : ByteArray := if lies s.size i n then s.extract i.toNat (i + n).toNat else ⟨#[]⟩
end Go.Proofs.YtpkmeknniajahaaGreatDoor.B2
