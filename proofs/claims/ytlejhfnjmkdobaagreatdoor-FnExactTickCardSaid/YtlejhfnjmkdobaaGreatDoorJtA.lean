/- Joined texts. -/
import Derived.Test.YtlejhfnjmkdobaaGreatDoorRows
import Derived.Handy
import Derived.Lib.SmallJoins
import Derived.Shelf.Small.Bits
import Derived.Shelf.Strconv.Clone
import Derived.Shelf.Sort.Plain
import Derived.Shelf.Slices.Turned
import Derived.Shelf.Slices.Clone
import Derived.Shelf.Slices.CompactI
set_option linter.unusedVariables false
set_option linter.unusedSimpArgs false
set_option maxRecDepth 10000
set_option maxHeartbeats 16000000
namespace Go.Proofs.YtlejhfnjmkdobaaGreatDoor
open Go.Proofs.Tryz

open Go.RowKit
abbrev Iv (x:Int):Value:=.int .i64 x
abbrev Pv (g j:Nat):Value:=.pointer (some ⟨g,j,none⟩)
abbrev Sv (g n c:Nat):Value:=.slice (some ⟨g,0,none⟩) n c
abbrev Bq (w W:World):Prop:=Below w.heap.size w W
abbrev Ce (W:World) (a i:Nat) (v:Value):Prop:=W.cell? ⟨a,i,none⟩=some v
abbrev Rb (v:Value) (W:World):Ending->World->Prop:=fun e w'=>e=.returned v/\Below W.heap.size W w'
abbrev Rw (v:Value) (W:World):Ending->World->Prop:=fun e w'=>e=.returned v/\w'=W
abbrev Iq (k o s:Int) (a:Option Addr) (n c:Nat):Array Value:=#[.int .i64 k,.int .i64 o,.int .i64 s,.slice a n c]

namespace BZ
open List
theorem z:(∀ {α:Type} {xs:List α} {i:Nat} (h:i<xs.toArray.size),xs.toArray[i]'h=xs[i]'(by simpa using h))/\(∀ {α:Type} {a:α} {zs:List α} {i:Nat} {h:i+1<(a :: zs).length},getElem (a :: zs) (i+1) h=getElem zs i (Nat.lt_of_succ_lt_succ h))/\(∀ {α:Type} {a:α} {zs:List α} {h:0<(a :: zs).length},getElem (a :: zs) 0 h=a)/\(∀ {α:Type} (l:List α) (i:Nat) (a:α),l.toArray.setIfInBounds i a=(l.set i a).toArray)/\(∀ {α:Type} {x y:α} {xs:List α} {i:Nat},(x :: xs).set (i+1) y=x :: xs.set i y)/\(∀ {α:Type} {x y:α} {xs:List α},(x :: xs).set 0 y=y :: xs):=
 ⟨getElem_toArray,getElem_cons_succ _ _ _ _,getElem_cons_zero _ _ _,fun _ _ _=>setIfInBounds_toArray ..,set_cons_succ,set_cons_zero⟩
end BZ
namespace B1
open ChangeShapes WideShapes ChangeAt RowKit
def inB (x a b:Int):Bool:=decide (a<=x/\x<=b)
theorem inB_true {x a b:Int} (h:inB x a b=true):a<=x/\x<=b:=by simpa [inB] using h
theorem inB_false {x a b:Int} (h:inB x a b=false):¬ (a<=x/\x<=b):=by simpa [inB] using h
theorem l01In_any (x a b:Int) (w:World) :
  Calls prog 32 #[Iv x,Iv a,Iv b] w (Rw (.bool (inB x a b)) w):=by
 by_cases h1:a<=x
 ·by_cases h2:x<=b
  ·have e:inB x a b=true:=by simp[inB,h1,h2]
   rw[e];go_enter func32,ntmps32;go_wp2;go_ret;exact ⟨rfl,rfl⟩
  ·have e:inB x a b=false:=by simp[inB,h2]
   have h2':decide (x<=b)=false:=by simpa using h2
   rw[e];go_enter func32,ntmps32;go_wp2;go_ret;exact ⟨rfl,rfl⟩
 ·have e:inB x a b=false:=by simp[inB,h1]
  have h1':decide (a<=x)=false:=by simpa using h1
  rw[e];go_enter func32,ntmps32;go_wp2;go_ret;exact ⟨rfl,rfl⟩
end B1
namespace B0
open Go.RowKit
variable {P : Program}
theorem add_off (b o j:Nat):(⟨b,o,none⟩:Addr).add j=⟨b,o+j,none⟩:=by unfold Addr.add;split <;> simp_all
def Holds (w:World) (b o:Nat) (l:List UInt8):Prop:=∀ j (hj:j<l.length),w.cell? ⟨b,o+j,none⟩=some (.int .u8 (l[j].toNat:Int))
theorem conv_back (w:World) (src dst e:TypeId) (b o cap:Nat) (l:List UInt8) (hs:P.underlying src=some (.slice e)) (he:P.underlying e=some (.int .u8)) (hd:P.underlying dst=some .string)
  (h:Holds w b o l) (n:Nat) (hn:n=l.length):(convert src dst (.slice (some ⟨b,o,none⟩) n cap)).run P w=.ok (.string ⟨l.toArray⟩) w:=by
 subst hn;exact run_convert_bytes_back w src dst e ⟨b,o,none⟩ cap l hs he hd (fun j hj=>by rw[add_off];exact h j hj)
theorem holds_new (w:World) (C:Array Value) (T:TypeId) (fr:Nat × Nat) (l:List UInt8) (h:∀ j (hj:j<l.length),C[j]? = some (.int .u8 (l[j].toNat:Int))) :
  Holds (w.alloc (.cells C T fr)) w.heap.size 0 l:=fun j hj=>by
 rw[Nat.zero_add,World.cell?_alloc_mark];exact h j hj
theorem conv_to (w:World) (src dst e:TypeId) (s:ByteArray) (hs:P.underlying src=some .string) (hd:P.underlying dst=some (.slice e)) (he:P.underlying e=some (.int .u8)) :
  ∃ W cap,(convert src dst (.string s)).run P w=.ok (Sv w.heap.size s.size cap) W/\s.size<=cap/\Bq w W/\w.heap.size<W.heap.size/\Holds W w.heap.size 0 s.data.toList/\∀ j,j<s.size->W.frozen? ⟨w.heap.size,j,none⟩=false:=by
 have hc:s.size<=grownCap w s.size 0 e:=grownCap_ge w s.size 0 e;refine ⟨_,_,run_bytes_of_string w src dst e s hs hd he,hc,?_,?_,?_,?_⟩
 ·exact (Below.refl _ w).drew.alloc (Nat.le_refl _) _
 ·show w.heap.size<(w.heap.push _).size
  simp
 ·refine holds_new w.drew _ _ _ _ fun j hj=>?_
  have hj':j<s.data.size:=by simpa using hj
  rw[bytesRow_at s _ j hj'];simp
 ·intro j hj
  have:=World.frozen?_alloc_mark w.drew (bytesRow s (grownCap w s.size 0 e)) e (bytesRow s (grownCap w s.size 0 e)).size ((bytesRow s (grownCap w s.size 0 e)).size+1) j;refine this.trans ?_
  have hb:s.size<=(bytesRow s (grownCap w s.size 0 e)).size:=by
   have:s.data.size=s.size:=rfl;simp[bytesRow]
  have:¬ (bytesRow s (grownCap w s.size 0 e)).size<=j:=by omega
  simp[this]
theorem below_setCells {B b:Nat} {a:World} (hb:B<=b):∀ (vs:List Value) (o:Nat) (w:World),Below B a w->Below B a (w.setCells b o vs)
 | [],_,_,h=>h
 | v :: r,o,w,h=>below_setCells hb r (o+1) _ (h.setCell (by simpa using hb) v)
theorem size_setCells (b:Nat):∀ (vs:List Value) (o:Nat) (w:World),(w.setCells b o vs).heap.size=w.heap.size
 | [],_,_=>rfl
 | v :: r,o,w=>by rw[World.setCells,size_setCells b r];simp
theorem isSome_setCells (b:Nat):∀ (vs:List Value) (o:Nat) (w:World) (x:Addr),(w.cell? x).isSome=true->((w.setCells b o vs).cell? x).isSome=true
 | [],_,_,_,h=>h
 | v :: r,o,w,x,h=>by
  rw[World.setCells];refine isSome_setCells b r (o+1) _ x ?_
  by_cases e:(⟨b,o,none⟩:Addr)=x
  ·subst e
   obtain ⟨u,hu⟩:=Option.isSome_iff_exists.1 h;rw[World.cell?_setCell_same _ _ _ hu];rfl
  ·rw[World.cell?_setCell_other _ _ _ _ e]
   exact h
theorem copy_str (w:World) (dT sT ty elem:TypeId) (b o dLen dCap:Nat) (t:ByteArray) (hu:P.underlying dT=some (.slice elem)) (hs:(P.info? elem).map (·.size)=some 1) (hle:t.size<=dLen)
  (hc:∀ j,j<t.size->(w.cell? ⟨b,o+j,none⟩).isSome=true) (hf:∀ j,j<t.size->w.frozen? ⟨b,o+j,none⟩=false) :
  (Builtin.copy_ #[dT,sT] ty #[.slice (some ⟨b,o,none⟩) dLen dCap,.string t]).run P w=.ok (goInt t.size) (w.setCells b o (Lib.byteCells t.data.toList)):=by
 have hlen:(Lib.byteCells t.data.toList).length=t.size:=by rw[Lib.byteCells_length,<- Lib.size_eq]
 have hst:=run_storeCells_cells (P:=P) b o (Lib.byteCells t.data.toList) 0 w (by rw[hlen];simpa using hc) (by rw[hlen];simpa using hf) (Lib.byteCells_one _);have hmin:Nat.min t.size dLen=t.size:=Nat.min_eq_left hle
 have htk:List.take t.size (List.map (fun b:UInt8=>Value.int IntKind.u8 (b.toNat:Int)) t.data.toList)=Lib.byteCells t.data.toList:=by
  rw[List.take_of_length_le (by rw[List.length_map,<- Lib.size_eq];exact Nat.le_refl _)];rfl
 cases hq:P.info? elem with
 | none=>simp[hq] at hs
 | some i=>
  simp[Builtin.copy_,run_underlying hu,Builtin.lenOf,Builtin.firstCells,sizeOf,typeInfo,hq,hmin,htk,hst]
theorem holds_with (W:World) (b:Nat) (s t:List UInt8) (k:Nat) (hk:k+t.length<=s.length) (h:Holds W b 0 s) :
  Holds (W.setCells b k (Lib.byteCells t)) b 0 (s.take k++t++s.drop (k+t.length)):=by
 have hl:(Lib.byteCells t).length=t.length:=Lib.byteCells_length t
 have hin:∀ j,j<(Lib.byteCells t).length->(W.cell? ⟨b,k+j,none⟩).isSome=true:=fun j hj=>by
  have:=h (k+j) (by omega);rw[Nat.zero_add] at this;rw[this];rfl
 intro j hj
 have hj':j<s.length:=by simp at hj;omega
 rw[Nat.zero_add]
 by_cases h1:j<k
 ·rw[World.cell?_setCells_out b _ k W _ (fun _ _=>Or.inl h1)]
  have:=h j hj';rw[Nat.zero_add] at this;rw[this,List.getElem_append_left (by simp;omega),List.getElem_append_left (by simp;omega),List.getElem_take]
 ·by_cases h2:j<k+t.length
  ·have:=World.cell?_setCells_in b (Lib.byteCells t) k W hin (j-k) (by omega)
   rw[show k+(j-k)=j by omega] at this;rw[this,List.getElem_append_left (by simp;omega),List.getElem_append_right (by simp;omega)]
   have hm:min k s.length=k:=by omega
   simp[Lib.byteCells,hm]
  ·rw[World.cell?_setCells_out b _ k W _ (fun _ _=>Or.inr (by rw[hl];show k+t.length<=j;omega))]
   have:=h j hj';rw[Nat.zero_add] at this
   have e:k+t.length+(j-(s.take k++t).length)=j:=by rw[List.length_append,List.length_take];omega
   rw[this,List.getElem_append_right (by simp;omega),List.getElem_drop];simp only[e]
end B0
namespace B4
open ChangeShapes WideShapes ChangeAt RowKit
def nulls (k:Nat):ByteArray:=⟨Array.replicate k 0⟩
def zeros (n:Int):ByteArray:=if n<=5000 then nulls n.toNat else ⟨#[]⟩
theorem nulls_succ (k:Nat):nulls k ++ ⟨#[0]⟩=nulls (k+1):=by
 apply ByteArray.ext
 simp[nulls,Array.replicate_succ]
theorem nulls_size (k:Nat):(nulls k).size=k:=by simp[nulls,ByteArray.size]
theorem info8:(prog.info? 5).map (fun i=>(i.zero,i.size,i.bytes))=some (some (.int .u8 0),1,1):=by kernel_rfl
theorem spec_Zeros (n:Int) (w:World) :
  Calls prog 47 #[Iv n] w (Rw (.string (zeros n)) w):=by
 by_cases h:n<=5000
 ·have e:zeros n=nulls n.toNat:=by rw[zeros,if_pos h]
  rw[e];go_enter func47,ntmps47;go_wp2
  go_loop [3,4] (fun t i=>∃ k:Nat,k<=n.toNat/\i=Iv k/\t=.string (nulls k)) (fun _ i=>n.toNat-(intOf i).toNat)
  case atStart=>exact ⟨0,Nat.zero_le _,rfl,rfl⟩
  case round=>
   obtain ⟨k,hk,rfl,rfl⟩:=hrel
   by_cases hlt:(k:Int)<n
   ·have hz:(nulls k).size+1<=9223372036854775807:=by rw[nulls_size];omega
    go_wp2
    go_round
    case rel=>exact ⟨k+1,by omega,by go_num,by first | rfl | rw[<- nulls_succ]⟩
    case measure=>simp[intOf];omega
   ·have hf:decide ((k:Int)<n)=false:=by simpa using hlt
    go_wp2;go_ret
    have hk':k=n.toNat:=by omega
    exact ⟨by rw[<- hk'];rfl,rfl⟩
 ·have e:zeros n=⟨#[]⟩:=by rw[zeros,if_neg h]
  have hf:decide (n<=5000)=false:=by simpa using h
  rw[e];go_enter func47,ntmps47;go_wp2
  go_loop [3,4] (fun t i=>i=Iv 0/\t=.string ⟨#[]⟩) (fun _ _=>0)
  case atStart=>exact ⟨rfl,rfl⟩
  case round=>
   obtain ⟨rfl,rfl⟩:=hrel;go_wp2;go_ret;exact ⟨rfl,rfl⟩
set_option maxRecDepth 4000 in
theorem impl_Zeros (n:Int) (w:World) :
  Calls prog 125 #[Iv n] w (Rb (.string (zeros n)) w):=by
 by_cases h1:n<0
 ·have e:zeros n=⟨#[]⟩:=by rw[zeros,if_pos (by omega),show n.toNat=0 by omega];rfl
  rw[e];go_enter func125,ntmps125;go_wp2;go_ret;exact ⟨rfl,Below.refl _ _⟩
 ·by_cases h2:5000<n
  ·have e:zeros n=⟨#[]⟩:=by rw[zeros,if_neg (by omega)]
   rw[e];go_enter func125,ntmps125;go_wp2;go_ret;exact ⟨rfl,Below.refl _ _⟩
  ·have e:zeros n=nulls n.toNat:=by rw[zeros,if_pos (by omega)]
   rw[e];obtain ⟨i0,hi,hz0,hz1,hz2⟩:=info_parts info8;obtain ⟨M,hM⟩:∃ M,M=madeCells (Value.int .u8 0).cells (n.toNat*i0.size):=⟨_,rfl⟩
   have hmk:∀ W:World,(Instr.makeSlice 126 (Iv n) (Iv n)).run prog W=.ok (Sv W.heap.size n.toNat n.toNat) (W.alloc (.cells M 5)):=fun W=>by
    have h:=run_make (P:=prog) W 126 5 i0 (.int .u8 0) underlying126 hi hz0 .i64 .i64 n n (by omega) (by omega) (by rw[hz2];omega) (by omega)
    rwa [<- hM] at h
   have hcv:∀ W:World,(convert 126 9 (Sv W.heap.size n.toNat n.toNat)).run prog (W.alloc (.cells M 5))=.ok (.string (nulls n.toNat)) (W.alloc (.cells M 5)):=fun W=>by
    have h:=B0.conv_back (P:=prog) (W.alloc (.cells M 5)) 126 9 5 W.heap.size 0 n.toNat (List.replicate n.toNat 0) underlying126 underlying5 underlying9
     (B0.holds_new _ _ _ _ _ fun j hj=>by
      have hj':j<n.toNat:=by simpa using hj
      rw[hM,<- Array.getElem?_toList,show (Value.int .u8 0).cells=#[Value.int .u8 0] from rfl,toList_madeCells_one,hz1]
      simp[hj']) n.toNat (by simp)
    have e2:(⟨(List.replicate n.toNat (0:UInt8)).toArray⟩:ByteArray)=nulls n.toNat:=by simp[nulls]
    rwa [e2] at h
   clear hM;clear hi hz0 hz1 hz2;go_enter func125,ntmps125;go_wp2;go_ret;exact ⟨rfl,by go_grown⟩
end B4
namespace B2
open ChangeShapes WideShapes ChangeAt RowKit
def lies (z:Nat) (i n:Int):Bool:=decide (0<=i/\0<=n/\n<=(z:Int)-i)
theorem lies_true {z:Nat} {i n:Int} (h:lies z i n=true):0<=i/\0<=n/\n<=(z:Int)-i:=by simpa [lies] using h
theorem lies_false {z:Nat} {i n:Int} (h:lies z i n=false):¬ (0<=i/\0<=n/\n<=(z:Int)-i):=of_decide_eq_false h
theorem liesIn_any (s:ByteArray) (i n:Int) (w:World) (hs:s.size<=maxLen) :
  Calls prog 160 #[.string s,Iv i,Iv n] w (Rw (.bool (lies s.size i n)) w):=by
 unfold maxLen at hs
 by_cases h1:0<=i
 ·by_cases h2:0<=n
  ·by_cases h3:i<=(s.size:Int)
   ·by_cases h4:n<=(s.size:Int)-i
    ·have e:lies s.size i n=true:=decide_eq_true ⟨h1,h2,h4⟩
     rw[e];go_enter func160,ntmps160;go_wp2;go_ret;exact ⟨rfl,rfl⟩
    ·have e:lies s.size i n=false:=decide_eq_false fun h=>h4 h.2.2
     have h4':decide (n<=(s.size:Int)-i)=false:=by simpa using h4
     rw[e];go_enter func160,ntmps160;go_wp2;go_ret;exact ⟨rfl,rfl⟩
   ·have e:lies s.size i n=false:=decide_eq_false fun h=>by omega
    have h3':decide (i<=(s.size:Int))=false:=by simpa using h3
    rw[e];go_enter func160,ntmps160;go_wp2;go_ret;exact ⟨rfl,rfl⟩
  ·have e:lies s.size i n=false:=decide_eq_false fun h=>by omega
   have h2':decide (0<=n)=false:=by simpa using h2
   rw[e];go_enter func160,ntmps160;go_wp2;go_ret;exact ⟨rfl,rfl⟩
 ·have e:lies s.size i n=false:=decide_eq_false fun h=>by omega
  have h1':decide (0<=i)=false:=by simpa using h1
  rw[e];go_enter func160,ntmps160;go_wp2;go_ret;exact ⟨rfl,rfl⟩
def part (s:ByteArray) (i n:Int):ByteArray:=if lies s.size i n then s.extract i.toNat (i+n).toNat else ⟨#[]⟩
end B2
namespace B5
open ChangeShapes WideShapes ChangeAt RowKit
def laid (s:ByteArray) (i:Int) (t:ByteArray):ByteArray:=if B2.lies s.size i t.size then s.extract 0 i.toNat++t++s.extract (i+t.size).toNat s.size else s
theorem spec_With (s:ByteArray) (i:Int) (t:ByteArray) (w:World) (hs:s.size<=281474976710656) (ht:t.size<=281474976710656) :
  Calls prog 66 #[.string s,Iv i,.string t] w fun e w'=>e=.returned (.string (laid s i t))/\∃ n,w'=w.drewN n:=by
 by_cases h1:i<0
 ·have e:laid s i t=s:=by rw[laid,show B2.lies s.size i t.size=false from decide_eq_false fun h=>by omega];rfl
  rw[e];go_enter func66,ntmps66;go_wp2;go_ret;exact ⟨rfl,0,rfl⟩
 ·by_cases h3:(s.size:Int)<(t.size:Int)
  ·have e:laid s i t=s:=by rw[laid,show B2.lies s.size i t.size=false from decide_eq_false fun h=>by omega];rfl
   rw[e];go_enter func66,ntmps66;go_wp2;go_ret;exact ⟨rfl,0,rfl⟩
  ·by_cases h4:(s.size:Int)-(t.size:Int)<i
   ·have e:laid s i t=s:=by rw[laid,show B2.lies s.size i t.size=false from decide_eq_false fun h=>by omega];rfl
    rw[e];go_enter func66,ntmps66;go_wp2;go_ret;exact ⟨rfl,0,rfl⟩
   ·have e:laid s i t=s.extract 0 i.toNat++t++s.extract (i+t.size).toNat s.size:=by rw[laid,show B2.lies s.size i t.size=true from decide_eq_true (by omega)];rfl
    rw[e]
    have h5:i<=(s.size:Int):=by omega
    have h6:i+(t.size:Int)<=(s.size:Int):=by omega
    have h7:0<=i+(t.size:Int):=by omega
    have z1:(s.extract 0 i.toNat).size<=s.size:=by simp only[ByteArray.size_extract];omega
    have z2:(s.extract (i+t.size).toNat s.size).size<=s.size:=by simp only[ByteArray.size_extract];omega
    have z3:(s.extract 0 i.toNat).size+t.size<=9223372036854775807:=by omega
    have z4:(s.extract 0 i.toNat++t).size+(s.extract (i+t.size).toNat s.size).size<=9223372036854775807:=by rw[ByteArray.size_append];omega
    go_enter func66,ntmps66;go_wp2
    go_quiet (fail)
    go_wp2;go_ret;exact ⟨rfl,_,rfl⟩
theorem laid_eq (s:ByteArray) (k:Nat) (t:ByteArray) (h:k+t.size<=s.size) :
  s.extract 0 k++t++s.extract (k+t.size) s.size=⟨(s.data.toList.take k++t.data.toList++s.data.toList.drop (k+t.data.toList.length)).toArray⟩:=by
 apply ByteArray.ext
 apply Array.toList_inj.1
 have e1:(s.data.toList.drop (k+t.data.toList.length)).take (s.size-(k+t.size))=s.data.toList.drop (k+t.data.toList.length):=
  List.take_of_length_le (by rw[List.length_drop,<- Lib.size_eq,<- Lib.size_eq];omega)
 simp only[ByteArray.data_append,Array.toList_append,Lib.extract_data,List.drop_zero,Nat.sub_zero];rw[Lib.size_eq t] at *;rw[e1]
theorem info8:(prog.info? 5).map (·.size)=some 1:=by kernel_rfl
theorem impl_With (s:ByteArray) (i:Int) (t:ByteArray) (w:World) (hs:s.size<=281474976710656) (ht:t.size<=281474976710656) :
  Calls prog 122 #[.string s,Iv i,.string t] w (Rb (.string (laid s i t)) w):=by
 have hs':s.size<=maxLen:=by unfold maxLen;omega
 obtain ⟨W,cap,hcv,hcap,hb,hz,hH,hF⟩:=B0.conv_to (P:=prog) w 9 126 5 s underlying9 underlying126 underlying5;have hlen:s.data.toList.length=s.size:=(Lib.size_eq s).symm;have hself:(⟨s.data.toList.toArray⟩:ByteArray)=s:=Lib.mk_data s
 have hback:(convert 126 9 (Sv w.heap.size s.size cap)).run prog W=.ok (.string s) W:=by
  have:=B0.conv_back (P:=prog) W 126 9 5 w.heap.size 0 cap s.data.toList underlying126 underlying5 underlying9 hH s.size hlen.symm
  rwa [hself] at this
 by_cases h:B2.lies s.size i t.size=true
 ·obtain ⟨h1,h2,h3⟩:=B2.lies_true h
  have e:laid s i t=s.extract 0 i.toNat++t++s.extract (i+t.size).toNat s.size:=by rw[laid,h];rfl
  by_cases h0:t.size=0
  ·have e':laid s i t=s:=by
    rw[e,show (i+(t.size:Int)).toNat=i.toNat+t.size by omega,laid_eq s i.toNat t (by omega)];have:t.data.toList=[]:=List.eq_nil_of_length_eq_zero (by rw[<- Lib.size_eq];exact h0);rw[this];simp
   have hcp:∀ d dl dc W',(Builtin.copy_ #[126,9] 3 #[.slice d dl dc,.string t]).run prog W'=.ok (goInt 0) W':=fun d dl dc W'=>
    Lib.run_copy_empty_string W' 126 9 3 5 d dl dc t underlying126 (by rw[info8];rfl) h0
   rw[e'];clear hH hF e e' hself h0
   by_cases h9:cap=i.toNat
   ·subst h9
    go_enter func122,ntmps122
    go_wp2_with (go_at_call 160;refine (B2.liesIn_any _ _ _ _ hs').mono ?_;rintro e w' ⟨rfl,rfl⟩)
    go_ret;exact ⟨rfl,hb⟩
   ·go_enter func122,ntmps122
    go_wp2_with (go_at_call 160;refine (B2.liesIn_any _ _ _ _ hs').mono ?_;rintro e w' ⟨rfl,rfl⟩)
    go_ret;exact ⟨rfl,hb⟩
  ·have h9:¬ cap=i.toNat:=by omega
   have htl:t.data.toList.length=t.size:=(Lib.size_eq t).symm
   have hcp:=B0.copy_str (P:=prog) W 126 9 3 5 w.heap.size i.toNat (s.size-i.toNat) (cap-i.toNat) t underlying126 info8 (by omega)
    (fun j hj=>by
     have:=hH (i.toNat+j) (by omega);rw[Nat.zero_add] at this;rw[this]
     rfl) (fun j hj=>hF _ (by omega))
   have hH2:=B0.holds_with W w.heap.size s.data.toList t.data.toList i.toNat (by omega) hH;have hb2:Bq w (W.setCells w.heap.size i.toNat (Lib.byteCells t.data.toList)):=B0.below_setCells (Nat.le_refl _) _ _ _ hb;obtain ⟨W2,hW2⟩:∃ W2,W2=W.setCells w.heap.size i.toNat (Lib.byteCells t.data.toList):=⟨_,rfl⟩;rw[<- hW2] at hcp hH2 hb2
   have hback2:(convert 126 9 (Sv w.heap.size s.size cap)).run prog W2=.ok (.string (laid s i t)) W2:=by
    have:=B0.conv_back (P:=prog) W2 126 9 5 w.heap.size 0 cap _ underlying126 underlying5 underlying9 hH2 s.size (by simp;omega);rw[e,show (i+(t.size:Int)).toNat=i.toNat+t.size by omega,laid_eq s i.toNat t (by omega)];exact this
   clear hH hF hH2 hW2 e hself hback h0 hlen htl;go_enter func122,ntmps122
   go_wp2_with (go_at_call 160;refine (B2.liesIn_any _ _ _ _ hs').mono ?_;rintro e w' ⟨rfl,rfl⟩)
   go_ret;exact ⟨rfl,hb2⟩
 ·have h':B2.lies s.size i t.size=false:=by simpa using h
  have e:laid s i t=s:=by rw[laid,h'];rfl
  rw[e];clear hH hF e hself;go_enter func122,ntmps122
  go_wp2_with (go_at_call 160;refine (B2.liesIn_any _ _ _ _ hs').mono ?_;rintro e w' ⟨rfl,rfl⟩)
  go_ret;exact ⟨rfl,hb⟩
end B5
namespace B1
open ChangeShapes WideShapes ChangeAt RowKit
def byteAt (s:ByteArray) (i:Int):Int:=if h:0<=i/\i<s.size then (s[i.toNat]'(by omega)).toNat else 0
theorem spec_ByteAt (s:ByteArray) (i:Int) (w:World) (hs:s.size<=maxLen) :
  Calls prog 131 #[.string s,Iv i] w (Rw (Iv (byteAt s i)) w):=by
 unfold maxLen at hs
 by_cases h:0<=i/\i<s.size
 ·have hin:inB i 0 ((s.size:Int)-1)=true:=by simp[inB];omega
  have e:byteAt s i=(s[i.toNat]'(by omega)).toNat:=by simp[byteAt,h]
  obtain ⟨h1,h2⟩:=h;rw[e];have hb:=(s[i.toNat]'(by omega)).toNat_lt;go_enter func131,ntmps131
  go_wp2_with (go_at_call 32;refine (l01In_any _ _ _ _).mono ?_;rintro e w' ⟨rfl,rfl⟩)
  go_ret;exact ⟨rfl,rfl⟩
 ·have hin:inB i 0 ((s.size:Int)-1)=false:=by simp[inB];omega
  have e:byteAt s i=0:=by simp[byteAt,h]
  rw[e];go_enter func131,ntmps131
  go_wp2_with (go_at_call 32;refine (l01In_any _ _ _ _).mono ?_;rintro e w' ⟨rfl,rfl⟩)
  go_ret;exact ⟨rfl,rfl⟩
theorem impl_ByteAt (s:ByteArray) (i:Int) (w:World) (hs:s.size<=maxLen) :
  Calls prog 186 #[.string s,Iv i] w (Rw (Iv (byteAt s i)) w):=by
 unfold maxLen at hs
 by_cases h:0<=i/\i<s.size
 ·have e:byteAt s i=(s[i.toNat]'(by omega)).toNat:=by simp[byteAt,h]
  obtain ⟨h1,h2⟩:=h;rw[e];have hb:=(s[i.toNat]'(by omega)).toNat_lt
  have h1':¬ i<0:=by omega
  go_enter func186,ntmps186;go_wp2;go_ret;exact ⟨rfl,rfl⟩
 ·have e:byteAt s i=0:=by simp[byteAt,h]
  rw[e]
  by_cases h1:i<0
  ·go_enter func186,ntmps186
   go_wp2;go_ret;exact ⟨rfl,rfl⟩
  ·have h2:(s.size:Int)<=i:=by omega
   go_enter func186,ntmps186;go_wp2;go_ret;exact ⟨rfl,rfl⟩
end B1
namespace E0
open Go
def chr (c:UInt8):Bool:=decide (97<=c.toNat/\c.toNat<=122) || (decide (48<=c.toNat/\c.toNat<=57) || decide (c.toNat=46))
theorem chr_false {c:UInt8} (h:chr c=false):¬ (97<=c.toNat/\c.toNat<=122)/\¬ (48<=c.toNat/\c.toNat<=57)/\¬ c.toNat=46:=by
 simp only[chr,Bool.or_eq_false_iff,decide_eq_false_iff_not] at h;exact h
theorem chr_true {c:UInt8} (h:chr c=true):(97<=c.toNat/\c.toNat<=122)\/(48<=c.toNat/\c.toNat<=57)\/c.toNat=46:=by
 simp only[chr,Bool.or_eq_true,decide_eq_true_eq] at h;exact h
def dot1 (s:ByteArray):Bool:=s.toList == [46]
def dot2 (s:ByteArray):Bool:=s.toList == [46,46]
def nameOk (s:ByteArray):Bool:=s.data.toList.all chr && (B1.inB s.size 1 14 && (!dot1 s && !dot2 s))
def entryOk (i:Int) (s:ByteArray):Bool:=nameOk s && B1.inB i 1 7
theorem take_snoc (s:ByteArray) (k:Nat) (h:k<s.size):s.data.toList.take (k+1)=s.data.toList.take k ++ [s[k]]:=by
 rw[List.take_succ_eq_append_getElem (by rw[<- Lib.size_eq];exact h)];rfl
theorem take_all (s:ByteArray):s.data.toList.take s.size=s.data.toList:=List.take_of_length_le (by rw[<- Lib.size_eq];exact Nat.le_refl _)
theorem all_snoc {s:ByteArray} {k:Nat} (h:k<s.size) (ha:(s.data.toList.take k).all chr=true) (hc:chr s[k]=true):(s.data.toList.take (k+1)).all chr=true:=by
 rw[take_snoc s k h];simp only[List.all_append,List.all_cons,List.all_nil,Bool.and_true,Bool.and_eq_true];exact ⟨ha,hc⟩
theorem all_bad {s:ByteArray} {k:Nat} (hk:k<s.size) (h:chr s[k]=false):s.data.toList.all chr=false:=by
 rw[List.all_eq_false];refine ⟨s[k],?_,by rw[h];decide⟩
 have hk':k<s.data.toList.length:=by rw[<- Lib.size_eq];exact hk
 exact List.getElem_mem hk'
theorem nameOk_bad {s:ByteArray} {k:Nat} (hk:k<s.size) (h:chr s[k]=false):nameOk s=false:=by rw[nameOk,all_bad hk h];rfl
theorem nameOk_all {s:ByteArray} (h:s.data.toList.all chr=true):nameOk s=(B1.inB s.size 1 14 && (!dot1 s && !dot2 s)):=by rw[nameOk,h];rfl
theorem nameOk_size {s:ByteArray} (h:nameOk s=true):1<=s.size/\s.size<=14:=by
 simp only[nameOk,Bool.and_eq_true] at h;have:=B1.inB_true h.2.1;omega
theorem entryOk_true {i:Int} {s:ByteArray} (h:entryOk i s=true):nameOk s=true/\(1<=i/\i<=7):=by
 simp only[entryOk,Bool.and_eq_true] at h;exact ⟨h.1,B1.inB_true h.2⟩
def headOf (i:Int) (s:ByteArray):ByteArray:=⟨#[UInt8.ofNat i.toNat,UInt8.ofNat s.size]⟩++s
def putE (i:Int) (s:ByteArray):ByteArray:=if entryOk i s then headOf i s++B4.nulls (14-s.size) else ⟨#[]⟩
theorem headOf_size (i:Int) (s:ByteArray):(headOf i s).size=2+s.size:=by
 rw[headOf,ByteArray.size_append];rfl
theorem laid_front (t:ByteArray) (n:Nat) (h:t.size<=n):B5.laid (B4.nulls n) 0 t=t++B4.nulls (n-t.size):=by
 have hz:=B4.nulls_size n
 rw[B5.laid,show B2.lies (B4.nulls n).size 0 t.size=true from decide_eq_true (by omega),if_pos rfl]
 have h2:((0:Int)+(t.size:Int)).toNat=0+t.size:=by omega
 rw[h2];have:=B5.laid_eq (B4.nulls n) 0 t (by omega)
 rw[show ((0:Int)).toNat=0 from rfl,this]
 apply ByteArray.ext
 simp only[ByteArray.data_append]
 apply Array.toList_inj.1
 simp only[Array.toList_append,List.take_zero,List.nil_append,Nat.zero_add,B4.nulls,Array.toList_replicate,List.drop_replicate];rw[<- Lib.size_eq]
end E0
namespace E1
open ChangeShapes WideShapes ChangeAt RowKit
theorem ret_bool {a b:Bool} (h:a=b):Ending.returned (.bool a)=.returned (.bool b):=by rw[h]
theorem in_a (c:UInt8):B1.inB (c.toNat:Int) 97 122=decide (97<=c.toNat/\c.toNat<=122):=by
 unfold B1.inB;rw[decide_eq_decide];omega
theorem in_0 (c:UInt8):B1.inB (c.toNat:Int) 48 57=decide (48<=c.toNat/\c.toNat<=57):=by
 unfold B1.inB;rw[decide_eq_decide];omega
set_option maxRecDepth 4000 in
theorem spec_EntryOk (i:Int) (s:ByteArray) (w:World) (hs:s.size<=281474976710656) :
  Calls prog 196 #[.agg #[Iv i,.string s]] w fun e w'=>e=.returned (.bool (E0.entryOk i s))/\w'=w.alloc (.cells #[Iv i,.string s] 133):=by
 go_enter func196,ntmps196;go_wp2
 go_loop [3] (fun t=>∃ k:Nat,k<=s.size/\(s.data.toList.take k).all E0.chr=true/\t=Iv k) (fun t=>s.size-(intOf t).toNat)
 case atStart=>exact ⟨0,Nat.zero_le _,rfl,rfl⟩
 case round=>
  obtain ⟨k,hk,hall,rfl⟩:=hrel
  by_cases hlt:k<s.size
  ·have hc:=s[k].toNat_lt
   have hi1:=in_a s[k];have hi2:=in_0 s[k]
   by_cases hd:E0.chr s[k]=true
   ·have HA:Hid ((s.data.toList.take (k+1)).all E0.chr=true):=E0.all_snoc hlt hall hd
    have hcase:=E0.chr_true hd;clear hall hd
    by_cases h1:97<=s[k].toNat/\s[k].toNat<=122
    ·rw[decide_eq_true h1] at hi1
     clear hcase hi2
     go_wp2_with (go_at_call 32;refine (B1.l01In_any _ _ _ _).mono ?_;rintro e w' ⟨rfl,rfl⟩)
     go_round
     case rel=>exact ⟨k+1,by omega,HA.out,by go_num⟩
     case measure=>simp[intOf];omega
    ·rw[decide_eq_false h1] at hi1
     by_cases h2:48<=s[k].toNat/\s[k].toNat<=57
     ·rw[decide_eq_true h2] at hi2
      clear hcase
      go_wp2_with (go_at_call 32;refine (B1.l01In_any _ _ _ _).mono ?_;rintro e w' ⟨rfl,rfl⟩)
      go_round
      case rel=>exact ⟨k+1,by omega,HA.out,by go_num⟩
      case measure=>simp[intOf];omega
     ·rw[decide_eq_false h2] at hi2
      have h3:((s[k].toNat:Int) != 46)=false:=by simp;omega
      clear hcase
      go_wp2_with (go_at_call 32;refine (B1.l01In_any _ _ _ _).mono ?_;rintro e w' ⟨rfl,rfl⟩)
      go_round
      case rel=>exact ⟨k+1,by omega,HA.out,by go_num⟩
      case measure=>simp[intOf];omega
   ·have hd':E0.chr s[k]=false:=by simpa using hd
    obtain ⟨n1,n2,n3⟩:=E0.chr_false hd';rw[decide_eq_false n1] at hi1;rw[decide_eq_false n2] at hi2
    have h3:((s[k].toNat:Int) != 46)=true:=by simp;omega
    have HR:Hid (E0.entryOk i s=false):=by rw[E0.entryOk,E0.nameOk_bad hlt hd'];rfl
    clear hall hd hd'
    go_wp2_with (go_at_call 32;refine (B1.l01In_any _ _ _ _).mono ?_;rintro e w' ⟨rfl,rfl⟩)
    go_ret;exact ⟨ret_bool HR.out.symm,rfl⟩
  ·obtain rfl:k=s.size:=by omega
   rw[E0.take_all] at hall
   have HR:Hid (E0.entryOk i s=((B1.inB s.size 1 14 && (!(s.toList == [46]) && !(s.toList == [46,46]))) && B1.inB i 1 7)):=by rw[E0.entryOk,E0.nameOk_all hall];rfl
   clear hall
   by_cases h1:B1.inB i 1 7=true
   ·by_cases h2:B1.inB s.size 1 14=true
    ·by_cases h3:(s.toList == [46])=true
     ·go_wp2_with (go_at_call 32;refine (B1.l01In_any _ _ _ _).mono ?_;rintro e w' ⟨rfl,rfl⟩)
      go_ret;exact ⟨ret_bool (by rw[HR.out,h1,h2,h3];rfl),rfl⟩
     ·have h3':(s.toList == [46])=false:=by simpa using h3
      by_cases h4:(s.toList == [46,46])=true
      ·go_wp2_with (go_at_call 32;refine (B1.l01In_any _ _ _ _).mono ?_;rintro e w' ⟨rfl,rfl⟩)
       go_ret;exact ⟨ret_bool (by rw[HR.out,h1,h2,h3',h4];rfl),rfl⟩
      ·have h4':(s.toList == [46,46])=false:=by simpa using h4
       go_wp2_with (go_at_call 32;refine (B1.l01In_any _ _ _ _).mono ?_;rintro e w' ⟨rfl,rfl⟩)
       go_ret;exact ⟨ret_bool (by rw[HR.out,h1,h2,h3',h4'];rfl),rfl⟩
    ·have h2':B1.inB s.size 1 14=false:=by simpa using h2
     go_wp2_with (go_at_call 32;refine (B1.l01In_any _ _ _ _).mono ?_;rintro e w' ⟨rfl,rfl⟩)
     go_ret;exact ⟨ret_bool (by rw[HR.out,h1,h2'];rfl),rfl⟩
   ·have h1':B1.inB i 1 7=false:=by simpa using h1
    go_wp2_with (go_at_call 32;refine (B1.l01In_any _ _ _ _).mono ?_;rintro e w' ⟨rfl,rfl⟩)
    go_ret;exact ⟨ret_bool (by rw[HR.out,h1',Bool.and_false]),rfl⟩
theorem below_iter (w:World) (s:ByteArray) (k:Nat):Bq w (w.iter s k):=(Below.refl _ w).alloc (Nat.le_refl _) _
set_option maxRecDepth 4000 in
theorem impl_nameOk (s:ByteArray) (w:World) (hs:s.size<=281474976710656) :
  Calls prog 231 #[.string s] w (Rb (.bool (E0.nameOk s)) w):=by
 by_cases z1:(s.size:Int)<1
 ·have HR:Hid (E0.nameOk s=false):=by rw[E0.nameOk,show B1.inB s.size 1 14=false from decide_eq_false (by omega),Bool.false_and,Bool.and_false];rfl
  go_enter func231,ntmps231;go_wp2;go_ret;exact ⟨ret_bool HR.out.symm,Below.refl _ _⟩
 ·by_cases z2:14<(s.size:Int)
  ·have HR:Hid (E0.nameOk s=false):=by rw[E0.nameOk,show B1.inB s.size 1 14=false from decide_eq_false (by omega),Bool.false_and,Bool.and_false];rfl
   go_enter func231,ntmps231;go_wp2;go_ret;exact ⟨ret_bool HR.out.symm,Below.refl _ _⟩
  ·by_cases h3:(s.toList == [46])=true
   ·have HR:Hid (E0.nameOk s=false):=by rw[E0.nameOk,E0.dot1,h3,Bool.not_true,Bool.false_and,Bool.and_false,Bool.and_false];rfl
    go_enter func231,ntmps231;go_wp2;go_ret;exact ⟨ret_bool HR.out.symm,Below.refl _ _⟩
   ·have h3':(s.toList == [46])=false:=by simpa using h3
    clear h3
    by_cases h4:(s.toList == [46,46])=true
    ·have HR:Hid (E0.nameOk s=false):=by rw[E0.nameOk,E0.dot2,h4,Bool.not_true,Bool.and_false,Bool.and_false,Bool.and_false];rfl
     go_enter func231,ntmps231;go_wp2;go_ret;exact ⟨ret_bool HR.out.symm,Below.refl _ _⟩
    ·have h4':(s.toList == [46,46])=false:=by simpa using h4
     clear h4
     have HY:Hid (s.data.toList.all E0.chr=true->E0.nameOk s=true):=fun h=>by
      rw[E0.nameOk_all h,E0.dot1,E0.dot2,h3',h4',show B1.inB s.size 1 14=true from decide_eq_true (by omega)]
      rfl
     go_enter func231,ntmps231;go_wp2
     go_loopw [] (fun w'=>∃ k:Nat,w'=w.iter s k/\k<=s.size/\(s.data.toList.take k).all E0.chr=true) (fun w'=>s.size-w'.iterPos w.heap.size)
     case atStart=>exact ⟨0,rfl,Nat.zero_le _,rfl⟩
     case round=>
      obtain ⟨k,rfl,hk,hall⟩:=hrel
      by_cases hlt:k<s.size
      ·have hc:=s[k].toNat_lt
       by_cases ha:s[k].toNat<128
       ·have hnx:∀ ty,(Instr.next (Pv w.heap.size 0) true ty).run prog (w.iter s k)=_:=fun ty=>run_next_ascii w s k ty hlt ha
        by_cases hd:E0.chr s[k]=true
        ·have HA:Hid ((s.data.toList.take (k+1)).all E0.chr=true):=E0.all_snoc hlt hall hd
         have hcase:=E0.chr_true hd;clear hall hd
         rcases hcase with ⟨c1,c2⟩ | ⟨c1,c2⟩ | c1
         ·have g1:((s[k].toNat:Int) != 46)=true:=by simp;omega
          have g2:¬ (s[k].toNat:Int)<48:=by omega
          have g3:57<(s[k].toNat:Int):=by omega
          have g4:¬ (s[k].toNat:Int)<97:=by omega
          have g5:¬ 122<(s[k].toNat:Int):=by omega
          go_wp2
          go_roundw
          case rel=>exact ⟨k+1,rfl,by omega,HA.out⟩
          case measure=>simp;omega
         ·have g1:((s[k].toNat:Int) != 46)=true:=by simp;omega
          have g2:¬ (s[k].toNat:Int)<48:=by omega
          have g3:¬ 57<(s[k].toNat:Int):=by omega
          go_wp2
          go_roundw
          case rel=>exact ⟨k+1,rfl,by omega,HA.out⟩
          case measure=>simp;omega
         ·have g1:((s[k].toNat:Int) != 46)=false:=by simp;omega
          clear c1;go_wp2
          go_roundw
          case rel=>exact ⟨k+1,rfl,by omega,HA.out⟩
          case measure=>simp;omega
        ·have hd':E0.chr s[k]=false:=by simpa using hd
         obtain ⟨n1,n2,n3⟩:=E0.chr_false hd';have HR:Hid (E0.nameOk s=false):=E0.nameOk_bad hlt hd'
         have g1:((s[k].toNat:Int) != 46)=true:=by simp;omega
         clear hall hd hd' n3
         by_cases g2:(s[k].toNat:Int)<48
         ·have g3:(s[k].toNat:Int)<97:=by omega
          go_wp2;go_ret;exact ⟨ret_bool HR.out.symm,below_iter _ _ _⟩
         ·have g3:57<(s[k].toNat:Int):=by omega
          by_cases g4:(s[k].toNat:Int)<97
          ·go_wp2
           go_ret;exact ⟨ret_bool HR.out.symm,below_iter _ _ _⟩
          ·have g5:122<(s[k].toNat:Int):=by omega
           go_wp2;go_ret;exact ⟨ret_bool HR.out.symm,below_iter _ _ _⟩
       ·have hnx:∀ ty,(Instr.next (Pv w.heap.size 0) true ty).run prog (w.iter s k)=_:=fun ty=>run_next_any w s k ty hlt
        have hh:=(decode_high s k hlt (by omega)).1
        have g1:(((Utf8.decode s k).1:Int) != 46)=true:=by simp;omega
        have g2:¬ ((Utf8.decode s k).1:Int)<48:=by omega
        have g3:57<((Utf8.decode s k).1:Int):=by omega
        have g4:¬ ((Utf8.decode s k).1:Int)<97:=by omega
        have g5:122<((Utf8.decode s k).1:Int):=by omega
        have HR:Hid (E0.nameOk s=false):=E0.nameOk_bad hlt (by
         have:∀ c:UInt8,¬ c.toNat<128->E0.chr c=false:=fun c h=>by
          simp only[E0.chr,Bool.or_eq_false_iff,decide_eq_false_iff_not];omega
         exact this _ ha)
        clear hall;go_wp2;go_ret;exact ⟨ret_bool HR.out.symm,below_iter _ _ _⟩
      ·obtain rfl:k=s.size:=by omega
       have hnx:∀ ty,(Instr.next (Pv w.heap.size 0) true ty).run prog (w.iter s s.size)=_:=fun ty=>run_next_end w s s.size ty hlt
       rw[E0.take_all] at hall;have HR:Hid (E0.nameOk s=true):=HY.out hall;clear hall;go_wp2;go_ret;exact ⟨ret_bool HR.out.symm,below_iter _ _ _⟩
theorem impl_EntryOk (i:Int) (s:ByteArray) (w:World) (hs:s.size<=281474976710656) :
  Calls prog 228 #[.agg #[Iv i,.string s]] w (Rb (.bool (E0.entryOk i s)) w):=by
 have hb0:Bq w (w.alloc (.cells #[Iv i,.string s] 133)):=(Below.refl _ _).alloc (Nat.le_refl _) _
 by_cases h1:1<=i
 ·by_cases h2:i<8
  ·have HR:Hid (E0.entryOk i s=E0.nameOk s):=by rw[E0.entryOk,show B1.inB i 1 7=true from decide_eq_true (by omega),Bool.and_true];rfl
   go_enter func228,ntmps228
   go_wp2_with (go_at_call 231;refine (impl_nameOk _ _ hs).mono ?_;rintro e w' ⟨rfl,hb⟩)
   go_ret;exact ⟨ret_bool HR.out.symm,hb0.trans (hb.mono hb0.size)⟩
  ·have HR:Hid (E0.entryOk i s=false):=by rw[E0.entryOk,show B1.inB i 1 7=false from decide_eq_false (by omega),Bool.and_false];rfl
   have h2':decide (i<8)=false:=by simpa using h2
   go_enter func228,ntmps228;go_wp2;go_ret;exact ⟨ret_bool HR.out.symm,hb0⟩
 ·have HR:Hid (E0.entryOk i s=false):=by rw[E0.entryOk,show B1.inB i 1 7=false from decide_eq_false (by omega),Bool.and_false];rfl
  have h1':decide (1<=i)=false:=by simpa using h1
  go_enter func228,ntmps228;go_wp2;go_ret;exact ⟨ret_bool HR.out.symm,hb0⟩
end E1
namespace B3
open ChangeShapes WideShapes ChangeAt RowKit
def pair (n:Int):ByteArray:=if B1.inB n 0 65535 then ⟨#[UInt8.ofNat (n % 256).toNat,UInt8.ofNat (n / 256).toNat]⟩ else ⟨#[]⟩
theorem ofNat_int (n:Int) (h0:0<=n) (h1:n<256):((UInt8.ofNat n.toNat).toNat:Int)=n:=by
 have:n.toNat<256:=by omega
 simp[Nat.mod_eq_of_lt this];omega
theorem conv2 (x y:Int) (hx:0<=x/\x<256) (hy:0<=y/\y<256) (w:World) :
  (convert 126 9 (.slice (some ⟨w.heap.size,0,none⟩) 2 2)).run prog (w.alloc (.cells #[.int .u8 x,.int .u8 y] 5))=.ok (.string ⟨#[UInt8.ofNat x.toNat,UInt8.ofNat y.toNat]⟩) (w.alloc (.cells #[.int .u8 x,.int .u8 y] 5)):=
 B0.conv_back _ 126 9 5 _ 0 2 [UInt8.ofNat x.toNat,UInt8.ofNat y.toNat] underlying126 underlying5 underlying9
  (B0.holds_new _ _ _ _ _ fun j hj=>by
   match j,hj with
   | 0,_=>simp only[List.getElem_cons_zero,ofNat_int x hx.1 hx.2];rfl
   | 1,_=>simp only[List.getElem_cons_succ,List.getElem_cons_zero,ofNat_int y hy.1 hy.2];rfl) 2 rfl
theorem spec_Pair (n:Int) (w:World) :
  Calls prog 167 #[Iv n] w (Rb (.string (pair n)) w):=by
 by_cases h:B1.inB n 0 65535=true
 ·have e:pair n=⟨#[UInt8.ofNat (n % 256).toNat,UInt8.ofNat (n / 256).toNat]⟩:=by rw[pair,h];rfl
  rw[e];obtain ⟨h1,h2⟩:=B1.inB_true h;have hc:=conv2 (n % 256) (n / 256) (by omega) (by omega);go_enter func167,ntmps167
  go_wp2_with (go_at_call 32;refine (B1.l01In_any _ _ _ _).mono ?_;rintro e w' ⟨rfl,rfl⟩)
  go_ret;exact ⟨rfl,by go_grown⟩
 ·have h':B1.inB n 0 65535=false:=by simpa using h
  have e:pair n=⟨#[]⟩:=by rw[pair,h'];rfl
  rw[e];go_enter func167,ntmps167
  go_wp2_with (go_at_call 32;refine (B1.l01In_any _ _ _ _).mono ?_;rintro e w' ⟨rfl,rfl⟩)
  go_ret;exact ⟨rfl,Below.refl _ _⟩
theorem impl_Pair (n:Int) (w:World) :
  Calls prog 215 #[Iv n] w (Rb (.string (pair n)) w):=by
 by_cases h1:n<0
 ·have e:pair n=⟨#[]⟩:=by rw[pair,show B1.inB n 0 65535=false from decide_eq_false (by omega)];rfl
  rw[e];go_enter func215,ntmps215;go_wp2;go_ret;exact ⟨rfl,Below.refl _ _⟩
 ·by_cases h2:65535<n
  ·have e:pair n=⟨#[]⟩:=by rw[pair,show B1.inB n 0 65535=false from decide_eq_false (by omega)];rfl
   rw[e];go_enter func215,ntmps215;go_wp2;go_ret;exact ⟨rfl,Below.refl _ _⟩
  ·have e:pair n=⟨#[UInt8.ofNat (n % 256).toNat,UInt8.ofNat (n / 256).toNat]⟩:=by rw[pair,show B1.inB n 0 65535=true from decide_eq_true (by omega)];rfl
   rw[e];have hc:=conv2 (n % 256) (n / 256) (by omega) (by omega);go_enter func215,ntmps215;go_wp2;go_ret;exact ⟨rfl,by go_grown⟩
end B3
namespace E2
open ChangeShapes WideShapes ChangeAt RowKit
theorem ret_str {a b:ByteArray} (h:a=b):Ending.returned (.string a)=.returned (.string b):=by rw[h]
structure Bx (B:Nat) (w:World) (i:Int) (s:ByteArray) (W:World):Prop where
 c0:W.cell? ⟨B,0,none⟩=some (.int .i64 i)
 c1:W.cell? ⟨B,1,none⟩=some (.string s)
 lt:B<W.heap.size
 bel:Below B w W
variable {B : Nat} {w W W' : World} {i : Int} {s : ByteArray}
theorem Bx.below (h:Bx B w i s W) (hb:Bq W W'):Bx B w i s W':=
 ⟨(hb.cell (p:=⟨B,0,none⟩) h.lt).trans h.c0,(hb.cell (p:=⟨B,1,none⟩) h.lt).trans h.c1,Nat.lt_of_lt_of_le h.lt hb.size,h.bel.trans (hb.mono (Nat.le_of_lt h.lt))⟩
theorem Bx.alloc (h:Bx B w i s W) (o:Obj):Bx B w i s (W.alloc o):=h.below ((Below.refl _ _).alloc (Nat.le_refl _) o)
theorem Bx.drew (h:Bx B w i s W):Bx B w i s W.drew:=⟨h.c0,h.c1,h.lt,h.bel.drew⟩
theorem bx_new (i:Int) (s:ByteArray) (w:World) (T:TypeId):Bx w.heap.size w i s (w.alloc (.cells #[Iv i,.string s] T)):=by
 refine ⟨?_,?_,?_,?_⟩
 all_goals first | exact (Below.refl _ _).alloc (Nat.le_refl _) _ | (simp[go_sem];done) | (simp;done)
theorem spec_EntryOk_bx (hs:s.size<=281474976710656) (h:Bx B w i s W) :
  Calls prog 196 #[.agg #[Iv i,.string s]] W fun e w'=>e=.returned (.bool (E0.entryOk i s))/\Bx B w i s w':=
 (E1.spec_EntryOk i s W hs).mono fun _ _ ⟨he,hb⟩=>⟨he,hb ▸ h.alloc _⟩
theorem impl_EntryOk_bx (hs:s.size<=281474976710656) (h:Bx B w i s W) :
  Calls prog 228 #[.agg #[Iv i,.string s]] W fun e w'=>e=.returned (.bool (E0.entryOk i s))/\Bx B w i s w':=
 (E1.impl_EntryOk i s W hs).mono fun _ _ ⟨he,hb⟩=>⟨he,h.below hb⟩
theorem zeros_bx (n:Int) (h:Bx B w i s W) :
  Calls prog 125 #[Iv n] W fun e w'=>e=.returned (.string (B4.zeros n))/\Bx B w i s w':=
 (B4.impl_Zeros n W).mono fun _ _ ⟨he,hb⟩=>⟨he,h.below hb⟩
theorem with_bx (a:ByteArray) (k:Int) (t:ByteArray) (hs:a.size<=281474976710656) (ht:t.size<=281474976710656) (h:Bx B w i s W) :
  Calls prog 122 #[.string a,Iv k,.string t] W fun e w'=>e=.returned (.string (B5.laid a k t))/\Bx B w i s w':=
 (B5.impl_With a k t W hs ht).mono fun _ _ ⟨he,hb⟩=>⟨he,h.below hb⟩
theorem head_eq (hi:1<=i/\i<=7) (hs:s.size<=14):(⟨#[UInt8.ofNat i.toNat,UInt8.ofNat ((s.size:Int)).toNat]⟩:ByteArray)++s=E0.headOf i s:=by
 rw[E0.headOf,Int.toNat_natCast]
set_option maxRecDepth 4000 in
theorem spec_PutEntry (i:Int) (s:ByteArray) (w:World) (hs:s.size<=281474976710656) :
  Calls prog 168 #[.agg #[Iv i,.string s]] w (Rb (.string (E0.putE i s)) w):=by
 have h0:=bx_new i s w 133
 by_cases hok:E0.entryOk i s=true
 ·obtain ⟨hn,hi⟩:=E0.entryOk_true hok
  have hz:=E0.nameOk_size hn;have hc:=B3.conv2 i (s.size:Int) (by omega) (by omega);obtain ⟨X,hX⟩:∃ X:ByteArray,X=⟨#[UInt8.ofNat i.toNat,UInt8.ofNat ((s.size:Int)).toNat]⟩:=⟨_,rfl⟩
  have hXs:X.size=2:=by rw[hX];rfl
  have HP:Hid (E0.putE i s=(X++s)++B4.zeros (16-((X.size:Int)+(s.size:Int)))):=by
   rw[E0.putE,if_pos hok,hXs,hX,head_eq hi hz.2,B4.zeros,if_pos (by omega),show (16-(((2:Nat):Int)+(s.size:Int))).toNat=14-s.size by omega];rfl
  have z1:X.size+s.size<=9223372036854775807:=by omega
  have z2:(X.size:Int)+(s.size:Int)<=16:=by omega
  have z3:X.size+s.size+(B4.zeros (16-((X.size:Int)+(s.size:Int)))).size<=9223372036854775807:=by
   rw[B4.zeros,if_pos (by omega),B4.nulls_size];omega
  rw[<- hX] at hc;clear hX hXs;go_enter func168,ntmps168
  go_wp2_with (first
   | (go_at_call 196;refine (spec_EntryOk_bx hs h0).mono ?_;rintro e w1 ⟨rfl,h1⟩;have c0:=h1.c0;have c1:=h1.c1;have h1a:=h1.alloc (.cells #[.int .u8 i,.int .u8 (s.size:Int)] 5);have d0:=h1a.c0;have d1:=h1a.c1)
   | (go_at_call 47;refine (B4.spec_Zeros _ _).mono ?_;rintro e w2 ⟨rfl,rfl⟩))
  go_ret;exact ⟨ret_str HP.out.symm,h1a.bel⟩
 ·have hok':E0.entryOk i s=false:=by simpa using hok
  have HP:Hid (E0.putE i s=⟨#[]⟩):=by rw[E0.putE,if_neg hok];rfl
  go_enter func168,ntmps168
  go_wp2_with (go_at_call 196;refine (spec_EntryOk_bx hs h0).mono ?_;rintro e w1 ⟨rfl,h1⟩)
  go_ret;exact ⟨ret_str HP.out.symm,h1.bel⟩
set_option maxRecDepth 4000 in
theorem impl_PutEntry (i:Int) (s:ByteArray) (w:World) (hs:s.size<=281474976710656) :
  Calls prog 227 #[.agg #[Iv i,.string s]] w (Rb (.string (E0.putE i s)) w):=by
 have h0:=bx_new i s w 133
 by_cases hok:E0.entryOk i s=true
 ·obtain ⟨hn,hi⟩:=E0.entryOk_true hok
  have hz:=E0.nameOk_size hn;have hc:=B3.conv2 i (s.size:Int) (by omega) (by omega);obtain ⟨X,hX⟩:∃ X:ByteArray,X=⟨#[UInt8.ofNat i.toNat,UInt8.ofNat ((s.size:Int)).toNat]⟩:=⟨_,rfl⟩
  have hXs:X.size=2:=by rw[hX];rfl
  have z2:(X++s).size=2+s.size:=by rw[ByteArray.size_append,hXs]
  have HP:Hid (E0.putE i s=B5.laid (B4.zeros 16) 0 (X++s)):=by
   rw[E0.putE,if_pos hok,B4.zeros,if_pos (by decide),show ((16:Int)).toNat=16 from rfl,E0.laid_front _ 16 (by omega),z2,hX,head_eq hi hz.2,show 16-(2+s.size)=14-s.size by omega]
   rfl
  have z1:X.size+s.size<=9223372036854775807:=by omega
  have z4:(X++s).size<=281474976710656:=by omega
  have z5:(B4.zeros 16).size<=281474976710656:=by decide
  rw[<- hX] at hc;clear hX hXs z2;go_enter func227,ntmps227
  go_wp2_with (go_at_call 228;refine (impl_EntryOk_bx hs h0).mono ?_;rintro e w1 ⟨rfl,h1⟩;have c0:=h1.c0;have c1:=h1.c1;have h1a:=h1.alloc (.cells #[.int .u8 i,.int .u8 (s.size:Int)] 5);have d0:=h1a.c0;have d1:=h1a.c1;have h1d:=h1a.drew)
  go_region_with (first
   | (go_at_call 125;refine (zeros_bx _ (by assumption)).mono ?_;rintro e w4 ⟨rfl,h4⟩;have x0:=h4.c0;have x1:=h4.c1)
   | (go_at_call 122;refine (with_bx _ _ _ z5 z4 (by assumption)).mono ?_;rintro e w5 ⟨rfl,h5⟩))
  all_goals
   go_wp2;go_ret;exact ⟨ret_str HP.out.symm,h5.bel⟩
 ·have hok':E0.entryOk i s=false:=by simpa using hok
  have HP:Hid (E0.putE i s=⟨#[]⟩):=by rw[E0.putE,if_neg hok];rfl
  go_enter func227,ntmps227
  go_wp2_with (go_at_call 228;refine (impl_EntryOk_bx hs h0).mono ?_;rintro e w1 ⟨rfl,h1⟩)
  go_ret;exact ⟨ret_str HP.out.symm,h1.bel⟩
end E2
namespace K0
open Go.RowKit
structure Blk (B:Nat) (vs:List Value) (W:World):Prop where
 cell:∀ j (h:j<vs.length),W.cell? ⟨B,j,none⟩=some vs[j]
 free:∀ j,j<vs.length->W.frozen? ⟨B,j,none⟩=false
 lt:B<W.heap.size
variable {B : Nat} {vs : List Value} {w W W' : World}
theorem Blk.below (h:Blk B vs W) (hb:Bq W W'):Blk B vs W':=
 ⟨fun j hj=>(hb.cell (p:=⟨B,j,none⟩) h.lt).trans (h.cell j hj),fun j hj=>(hb.frozen (p:=⟨B,j,none⟩) h.lt).trans (h.free j hj),Nat.lt_of_lt_of_le h.lt hb.size⟩
theorem Blk.alloc (h:Blk B vs W) (o:Obj):Blk B vs (W.alloc o):=h.below ((Below.refl _ _).alloc (Nat.le_refl _) o)
theorem Blk.drew (h:Blk B vs W):Blk B vs W.drew:=⟨h.cell,h.free,h.lt⟩
theorem Blk.drewN (h:Blk B vs W) (n:Nat):Blk B vs (W.drewN n):=⟨h.cell,h.free,h.lt⟩
theorem blk_new (vs:List Value) (w:World) (T:TypeId):Blk w.heap.size vs (w.alloc (.cells vs.toArray T)):=by
 refine ⟨fun j hj=>?_,fun j hj=>?_,?_⟩
 ·rw[World.cell?_alloc_mark]
  simp[hj]
 ·have h:=World.frozen?_alloc_mark w vs.toArray T 0 0 j
  rw[h];simp
 ·simp
theorem blk_at (vs:List Value) (w:World) (T:TypeId) (hB:w.heap.size=B):Blk B vs (w.alloc (.cells vs.toArray T)):=hB ▸ blk_new vs w T
theorem Blk.set (h:Blk B vs W) (j:Nat) (v:Value):Blk B (vs.set j v) (W.setCell ⟨B,j,none⟩ v):=by
 refine ⟨fun k hk=>?_,fun k hk=>?_,?_⟩
 ·have hk':k<vs.length:=by simpa using hk
  by_cases e:j=k
  ·subst e
   rw[World.cell?_setCell_same _ _ _ (h.cell j hk')];simp
  ·rw[World.cell?_setCell_other _ _ _ _ (fun x=>e (Addr.mk.inj x).2.1),h.cell k hk',List.getElem_set_ne e]
 ·rw[World.frozen?_setCell]
  exact h.free k (by simpa using hk)
 ·have:=h.lt
  simpa [World.setCell] using this
theorem Blk.setOther (h:Blk B vs W) {B':Nat} (hne:B'≠B) (j:Nat) (v:Value):Blk B vs (W.setCell ⟨B',j,none⟩ v):=by
 refine ⟨fun k hk=>?_,fun k hk=>?_,?_⟩
 ·rw[World.cell?_setCell_other _ _ _ _ (fun x=>hne (Addr.mk.inj x).1)]
  exact h.cell k hk
 ·rw[World.frozen?_setCell]
  exact h.free k hk
 ·have:=h.lt
  simpa [World.setCell] using this
theorem Blk.c0 {a:Value} {l:List Value} (h:Blk B (a :: l) W):Ce W B 0 a:=h.cell 0 (by simp)
theorem Blk.c1 {a b:Value} {l:List Value} (h:Blk B (a :: b :: l) W):Ce W B 1 b:=h.cell 1 (by simp)
theorem Blk.c2 {a b c:Value} {l:List Value} (h:Blk B (a :: b :: c :: l) W):Ce W B 2 c:=h.cell 2 (by simp)
theorem Blk.c3 {a b c d:Value} {l:List Value} (h:Blk B (a :: b :: c :: d :: l) W):Ce W B 3 d:=h.cell 3 (by simp)
theorem Blk.f0 {a:Value} {l:List Value} (h:Blk B (a :: l) W):W.frozen? ⟨B,0,none⟩=false:=h.free 0 (by simp)
theorem Blk.f1 {a b:Value} {l:List Value} (h:Blk B (a :: b :: l) W):W.frozen? ⟨B,1,none⟩=false:=h.free 1 (by simp)
theorem Blk.f2 {a b c:Value} {l:List Value} (h:Blk B (a :: b :: c :: l) W):W.frozen? ⟨B,2,none⟩=false:=h.free 2 (by simp)
theorem Blk.f3 {a b c d:Value} {l:List Value} (h:Blk B (a :: b :: c :: d :: l) W):W.frozen? ⟨B,3,none⟩=false:=h.free 3 (by simp)
theorem Blk.put2 {a b:Value} (h:Blk B [a,b] W) (x y:Value):Blk B [x,y] ((W.setCell ⟨B,0,none⟩ x).setCell ⟨B,1,none⟩ y):=(h.set 0 x).set 1 y
theorem Blk.put4 {a b c d:Value} (h:Blk B [a,b,c,d] W) (x y z u:Value):Blk B [x,y,z,u] ((((W.setCell ⟨B,0,none⟩ x).setCell ⟨B,1,none⟩ y).setCell ⟨B,2,none⟩ z).setCell ⟨B,3,none⟩ u):=(((h.set 0 x).set 1 y).set 2 z).set 3 u
theorem below_drewN {B:Nat} {a w:World} (h:Below B a w) (n:Nat):Below B a (w.drewN n):=⟨h.os,h.tape,h.output,h.size,h.block⟩
theorem below_new (w:World) (o:Obj):Bq w (w.alloc o):=(Below.refl _ _).alloc (Nat.le_refl _) o
end K0
namespace T0
open Go.RowKit
abbrev Ent:=Int × ByteArray
def clash (o e:Ent):Bool:=(o.2.toList == e.2.toList) || (o.1 == e.1)
def taken (es:List Ent) (e:Ent):Bool:=es.any fun o=>clash o e
def ent (es:List Ent) (k:Nat):Ent:=es.getD k (0,⟨#[]⟩)
theorem ent_get (es:List Ent) (k:Nat) (h:k<es.length):ent es k=es[k]:=by simp[ent,List.getD,h]
theorem taken_succ (es:List Ent) (k:Nat) (e:Ent) (h:k<es.length):taken (es.take (k+1)) e=(taken (es.take k) e || clash (ent es k) e):=by
 rw[taken,taken,List.take_succ_eq_append_getElem h,List.any_append,ent_get es k h];simp
theorem taken_of {es:List Ent} {k n:Nat} {e:Ent} (hk:k<n) (hn:n<=es.length) (h:clash (ent es k) e=true):taken (es.take n) e=true:=by
 rw[taken,List.any_eq_true];refine ⟨ent es k,?_,h⟩;rw[ent_get es k (by omega)];exact List.mem_iff_getElem.2 ⟨k,by simp;omega,by simp⟩
def okAt (es:List Ent) (i:Nat):Bool:=E0.entryOk (ent es i).1 (ent es i).2 && !(taken (es.take i) (ent es i))
def okUpto (es:List Ent) (k:Nat):Bool:=(List.range k).all (okAt es)
def dirOk (es:List Ent):Bool:=decide (es.length<=12) && okUpto es es.length
theorem okUpto_succ (es:List Ent) (k:Nat):okUpto es (k+1)=(okUpto es k && okAt es k):=by simp[okUpto,List.range_succ]
theorem okUpto_bad {es:List Ent} {k n:Nat} (hk:k<n) (h:okAt es k=false):okUpto es n=false:=by
 rw[okUpto,List.all_eq_false];exact ⟨k,List.mem_range.2 hk,by rw[h];decide⟩
theorem dirOk_bad {es:List Ent} {k:Nat} (hk:k<es.length) (h:okAt es k=false):dirOk es=false:=by rw[dirOk,okUpto_bad hk h,Bool.and_false]
def joined (es:List Ent):Nat->ByteArray
 | 0=>⟨#[]⟩
 | k+1=>joined es k++E0.putE (ent es k).1 (ent es k).2
def putD (es:List Ent):ByteArray:=if dirOk es then joined es es.length else ⟨#[]⟩
theorem putE_size16 {i:Int} {s:ByteArray} (h:E0.entryOk i s=true):(E0.putE i s).size=16:=by
 have:=E0.nameOk_size (E0.entryOk_true h).1;rw[E0.putE,if_pos h,ByteArray.size_append,E0.headOf_size,B4.nulls_size];omega
theorem okAt_entry {es:List Ent} {k:Nat} (h:okAt es k=true):E0.entryOk (ent es k).1 (ent es k).2=true/\taken (es.take k) (ent es k)=false:=by
 simp only[okAt,Bool.and_eq_true,Bool.not_eq_true'] at h;exact h
theorem okUpto_at {es:List Ent} {n k:Nat} (h:okUpto es n=true) (hk:k<n):okAt es k=true:=by
 cases hb:okAt es k with
 | true=>rfl
 | false=>rw[okUpto_bad hk hb] at h;cases h
theorem joined_size {es:List Ent} {n:Nat} (h:okUpto es n=true):∀ k,k<=n->(joined es k).size=16*k
 | 0,_=>rfl
 | k+1,hk=>by
  rw[joined,ByteArray.size_append,joined_size h k (by omega),putE_size16 (okAt_entry (okUpto_at h (by omega:k<n))).1];omega
def Row (W:World) (a:Option Addr) (es:List Ent):Prop:=es=[]\/∃ b off,a=some ⟨b,off,none⟩/\b<W.heap.size/\∀ j,j<es.length->W.cell? ⟨b,off+j*2,none⟩=some (.int .i64 (ent es j).1)/\W.cell? ⟨b,off+j*2+1,none⟩=some (.string (ent es j).2)
theorem Row.below {W W':World} {a:Option Addr} {es:List Ent} (h:Row W a es) (hb:Bq W W'):Row W' a es:=by
 rcases h with h | ⟨b,off,ha,hlt,hc⟩
 ·exact Or.inl h
 ·exact Or.inr ⟨b,off,ha,Nat.lt_of_lt_of_le hlt hb.size,fun j hj=>⟨(hb.cell (p:=⟨b,off+j*2,none⟩) hlt).trans (hc j hj).1,(hb.cell (p:=⟨b,off+j*2+1,none⟩) hlt).trans (hc j hj).2⟩⟩
theorem Row.drewN {W:World} {a:Option Addr} {es:List Ent} (h:Row W a es) (n:Nat):Row (W.drewN n) a es:=h
theorem Row.get {W:World} {a:Option Addr} {es:List Ent} {k:Nat} (h:Row W a es) (hk:k<es.length):∃ b off,a=some ⟨b,off,none⟩/\b<W.heap.size/\∀ j,j<es.length->Ce W b (off+j*2) (Iv (ent es j).1)/\Ce W b (off+j*2+1) (.string (ent es j).2):=by
 rcases h with h | h
 ·subst h
  simp at hk
 ·exact h
theorem Row.take {W:World} {b off n:Nat} {es:List Ent} (hlt:b<W.heap.size) (hn:n<=es.length) (hc:∀ j,j<es.length->Ce W b (off+j*2) (Iv (ent es j).1)/\Ce W b (off+j*2+1) (.string (ent es j).2)):Row W (some ⟨b,off,none⟩) (es.take n):=by
 refine Or.inr ⟨b,off,rfl,hlt,fun j hj=>?_⟩
 have hj':j<n:=by simp at hj;omega
 have e:ent (es.take n) j=ent es j:=by simp[ent,List.getD,hj']
 rw[e];exact hc j (by omega)
def Fits (es:List Ent):Prop:=∀ j,j<es.length->(ent es j).2.size<=281474976710656
end T0
end Go.Proofs.YtlejhfnjmkdobaaGreatDoor
namespace Go.Proofs
open Go.Shelf
def Tryz.laysM316_ren:Go.Shelf.Ren:=⟨fun | 316=>152 | n=>n,fun | 9=>9 | 3=>3 | 4=>4 | 37=>126 | 0=>0 | 127=>230 | 5=>5 | n=>n,fun | n=>n⟩
theorem Tryz.laysM316:Go.Proofs.LaysM.n316 Tryz.prog Tryz.laysM316_ren:={
 mixed:=by kernel_rfl
 f316:=Tryz.func152.trans (congrArg some (by kernel_rfl))
 t0:=Tryz.underlying0
 a0:=Tryz.isAgg0
 z0:=Tryz.sizeOf0
 v0:=Tryz.zeroValue0
 t3:=Tryz.underlying3
 a3:=Tryz.isAgg3
 z3:=Tryz.sizeOf3
 v3:=Tryz.zeroValue3
 t4:=Tryz.underlying4
 a4:=Tryz.isAgg4
 z4:=Tryz.sizeOf4
 v4:=Tryz.zeroValue4
 t9:=Tryz.underlying9
 a9:=Tryz.isAgg9
 z9:=Tryz.sizeOf9
 v9:=Tryz.zeroValue9
 t37:=Tryz.underlying126
 a37:=Tryz.isAgg126
 z37:=Tryz.sizeOf126
 v37:=Tryz.zeroValue126
 t127:=Tryz.underlying230
 a127:=Tryz.isAgg230
 z127:=Tryz.sizeOf230
 v127:=Tryz.zeroValue230
 t5:=Tryz.underlying5
 a5:=Tryz.isAgg5
 z5:=Tryz.sizeOf5
 v5:=Tryz.zeroValue5
 i0:=by kernel_rfl
 i3:=by kernel_rfl
 i4:=by kernel_rfl
 i5:=by kernel_rfl
 i9:=by kernel_rfl
 i37:=by kernel_rfl
 i127:=by kernel_rfl }
open Go.RowKit in
theorem Tryz.stringslite_Clone (s:ByteArray) (w:World) (hlim:s.size<=281474976710656) :
  Calls Tryz.prog 152 #[.string s] w fun e w'=>e=.returned (.string s)/\Below w.heap.size w w':=Any.stringslite_Clone Tryz.laysM316 s w hlim
def Tryz.lays189_ren:Go.Shelf.Ren:=⟨fun | 189=>142 | 125=>174 | 257=>173 | 128=>210 | 129=>211 | 294=>201 | 295=>202 | 296=>203 | 297=>204 | 298=>205 | 299=>206 | 216=>207 | 300=>208 | 301=>209 | 328=>221 | 329=>222 | 330=>223 | 331=>224 | 332=>225 | 215=>226 | 343=>230 | n=>n,fun | 28=>32 | 3=>3 | 46=>225 | 0=>0 | 51=>57 | 53=>260 | 4=>4 | 183=>253 | 182=>252 | 131=>249 | 5=>5 | 9=>9 | 218=>263 | 222=>267 | 228=>270 | 229=>271 | n=>n,fun | n=>n⟩
theorem Tryz.lays189:Go.Proofs.Lays.n189 Tryz.prog Tryz.lays189_ren:={
 mixed:=by kernel_rfl
 f125:=Tryz.func174.trans (congrArg some (by kernel_rfl))
 f128:=Tryz.func210.trans (congrArg some (by kernel_rfl))
 f129:=Tryz.func211.trans (congrArg some (by kernel_rfl))
 f189:=Tryz.func142.trans (congrArg some (by kernel_rfl))
 f215:=Tryz.func226.trans (congrArg some (by kernel_rfl))
 f216:=Tryz.func207.trans (congrArg some (by kernel_rfl))
 f257:=Tryz.func173.trans (congrArg some (by kernel_rfl))
 f294:=Tryz.func201.trans (congrArg some (by kernel_rfl))
 f295:=Tryz.func202.trans (congrArg some (by kernel_rfl))
 f296:=Tryz.func203.trans (congrArg some (by kernel_rfl))
 f297:=Tryz.func204.trans (congrArg some (by kernel_rfl))
 f298:=Tryz.func205.trans (congrArg some (by kernel_rfl))
 f299:=Tryz.func206.trans (congrArg some (by kernel_rfl))
 f300:=Tryz.func208.trans (congrArg some (by kernel_rfl))
 f301:=Tryz.func209.trans (congrArg some (by kernel_rfl))
 f328:=Tryz.func221.trans (congrArg some (by kernel_rfl))
 f329:=Tryz.func222.trans (congrArg some (by kernel_rfl))
 f330:=Tryz.func223.trans (congrArg some (by kernel_rfl))
 f331:=Tryz.func224.trans (congrArg some (by kernel_rfl))
 f332:=Tryz.func225.trans (congrArg some (by kernel_rfl))
 f343:=Tryz.func230.trans (congrArg some (by kernel_rfl))
 t0:=Tryz.underlying0
 a0:=Tryz.isAgg0
 z0:=Tryz.sizeOf0
 v0:=Tryz.zeroValue0
 t3:=Tryz.underlying3
 a3:=Tryz.isAgg3
 z3:=Tryz.sizeOf3
 v3:=Tryz.zeroValue3
 t4:=Tryz.underlying4
 a4:=Tryz.isAgg4
 z4:=Tryz.sizeOf4
 v4:=Tryz.zeroValue4
 t5:=Tryz.underlying5
 a5:=Tryz.isAgg5
 z5:=Tryz.sizeOf5
 v5:=Tryz.zeroValue5
 t9:=Tryz.underlying9
 a9:=Tryz.isAgg9
 z9:=Tryz.sizeOf9
 v9:=Tryz.zeroValue9
 t28:=Tryz.underlying32
 a28:=Tryz.isAgg32
 z28:=Tryz.sizeOf32
 v28:=Tryz.zeroValue32
 t46:=Tryz.underlying225
 a46:=Tryz.isAgg225
 z46:=Tryz.sizeOf225
 v46:=Tryz.zeroValue225
 t51:=Tryz.underlying57
 a51:=Tryz.isAgg57
 z51:=Tryz.sizeOf57
 v51:=Tryz.zeroValue57
 t53:=Tryz.underlying260
 a53:=Tryz.isAgg260
 z53:=Tryz.sizeOf260
 v53:=Tryz.zeroValue260
 t131:=Tryz.underlying249
 a131:=Tryz.isAgg249
 z131:=Tryz.sizeOf249
 v131:=Tryz.zeroValue249
 t182:=Tryz.underlying252
 a182:=Tryz.isAgg252
 z182:=Tryz.sizeOf252
 v182:=Tryz.zeroValue252
 t183:=Tryz.underlying253
 a183:=Tryz.isAgg253
 z183:=Tryz.sizeOf253
 v183:=Tryz.zeroValue253
 t218:=Tryz.underlying263
 a218:=Tryz.isAgg263
 z218:=Tryz.sizeOf263
 v218:=Tryz.zeroValue263
 t222:=Tryz.underlying267
 a222:=Tryz.isAgg267
 z222:=Tryz.sizeOf267
 v222:=Tryz.zeroValue267
 t228:=Tryz.underlying270
 a228:=Tryz.isAgg270
 z228:=Tryz.sizeOf270
 v228:=Tryz.zeroValue270
 t229:=Tryz.underlying271
 a229:=Tryz.isAgg271
 z229:=Tryz.sizeOf271
 v229:=Tryz.zeroValue271 }
open Go.Sort Go.RowKit in
theorem Tryz.slices_Sort_int (blk off cap:Nat) (zs:List Int) (w:World) (hH:Holds (Value.int .i64) w blk off zs.toArray) (hblk:blk<w.heap.size) (hsz:zs.length<4611686018427387904) :
  Calls Tryz.prog 142 #[.slice (some ⟨blk,off,none⟩) zs.length cap] w fun e w'=>
   e=.returned (.tuple #[])/\∃ n os,w'=grow (putRow (Value.int .i64) (Sort.ahead w n) blk off (zs.mergeSort fun x y=>decide (x<=y)).toArray) os:=Any.slices_Sort_int Tryz.lays189 blk off cap zs w hH hblk hsz
def Tryz.lays107_ren:Go.Shelf.Ren:=⟨fun | 107=>130 | 108=>165 | n=>n,fun | 28=>32 | 3=>3 | 4=>4 | 0=>0 | n=>n,fun | n=>n⟩
theorem Tryz.lays107:Go.Proofs.Lays.n107 Tryz.prog Tryz.lays107_ren:={
 mixed:=by kernel_rfl
 f107:=Tryz.func130.trans (congrArg some (by kernel_rfl))
 f108:=Tryz.func165.trans (congrArg some (by kernel_rfl))
 t0:=Tryz.underlying0
 a0:=Tryz.isAgg0
 z0:=Tryz.sizeOf0
 v0:=Tryz.zeroValue0
 t3:=Tryz.underlying3
 a3:=Tryz.isAgg3
 z3:=Tryz.sizeOf3
 v3:=Tryz.zeroValue3
 t4:=Tryz.underlying4
 a4:=Tryz.isAgg4
 z4:=Tryz.sizeOf4
 v4:=Tryz.zeroValue4
 t28:=Tryz.underlying32
 a28:=Tryz.isAgg32
 z28:=Tryz.sizeOf32
 v28:=Tryz.zeroValue32 }
open Go.Lib in
theorem Tryz.slices_Contains_int (b off n c:Nat) (zs:List Int) (x:Int) (w:World) (hz:n<=zs.length) (hbig:n<=9223372036854775807) (hc:∀ j,j<zs.length->w.cell? ⟨b,off+j,none⟩=some (.int .i64 (zs.getD j 0))) :
  Calls Tryz.prog 130 #[.slice (some ⟨b,off,none⟩) n c,.int .i64 x] w fun e w'=>e=.returned (.bool ((zs.take n).contains x))/\w'=w:=Any.slices_Contains_int Tryz.lays107 b off n c zs x w hz hbig hc
open Go.Lib in
theorem Tryz.slices_Contains_int_empty (a:Option Addr) (c:Nat) (x:Int) (w:World) :
  Calls Tryz.prog 130 #[.slice a 0 c,.int .i64 x] w fun e w'=>e=.returned (.bool false)/\w'=w:=Any.slices_Contains_int_empty Tryz.lays107 a c x w
def Tryz.laysNm215_ren:Go.Shelf.Ren:=⟨fun | 15=>111 | n=>n,fun | 22=>32 | 3=>3 | 4=>4 | n=>n,fun | n=>n⟩
theorem Tryz.laysNm215:Go.Proofs.Lays2.n15 Tryz.prog Tryz.laysNm215_ren:={
 mixed:=by kernel_rfl
 f15:=Tryz.func111.trans (congrArg some (by kernel_rfl))
 t3:=Tryz.underlying3
 a3:=Tryz.isAgg3
 z3:=Tryz.sizeOf3
 v3:=Tryz.zeroValue3
 t4:=Tryz.underlying4
 a4:=Tryz.isAgg4
 z4:=Tryz.sizeOf4
 v4:=Tryz.zeroValue4
 t22:=Tryz.underlying32
 a22:=Tryz.isAgg32
 z22:=Tryz.sizeOf32
 v22:=Tryz.zeroValue32
 i3:=by kernel_rfl }
open Go.RowKit Go.Lib in
theorem Tryz.slices_Clone_int (b off n c:Nat) (zs:List Int) (w:World) (hz:n<=zs.length) (hbig:n*8<=140737488355328) (hc:∀ j,j<zs.length->w.cell? ⟨b,off+j,none⟩=some (.int .i64 (zs.getD j 0))) :
  Calls Tryz.prog 111 #[.slice (some ⟨b,off,none⟩) n c] w fun e w'=>∃ v',e=.returned v'/\w'.ownsRow w.heap.size 3 1 v' n ((zs.take n).map (Value.int .i64))/\v' ≠ .slice none 0 0/\Below w.heap.size w w':=Any.slices_Clone_int Tryz.laysNm215 b off n c zs w hz hbig hc
def Tryz.laysNm220_ren:Go.Shelf.Ren:=⟨fun | 20=>199 | n=>n,fun | 22=>32 | 3=>3 | 4=>4 | 0=>0 | n=>n,fun | n=>n⟩
theorem Tryz.laysNm220:Go.Proofs.Lays2.n20 Tryz.prog Tryz.laysNm220_ren:={
 mixed:=by kernel_rfl
 f20:=Tryz.func199.trans (congrArg some (by kernel_rfl))
 t0:=Tryz.underlying0
 a0:=Tryz.isAgg0
 z0:=Tryz.sizeOf0
 v0:=Tryz.zeroValue0
 t3:=Tryz.underlying3
 a3:=Tryz.isAgg3
 z3:=Tryz.sizeOf3
 v3:=Tryz.zeroValue3
 t4:=Tryz.underlying4
 a4:=Tryz.isAgg4
 z4:=Tryz.sizeOf4
 v4:=Tryz.zeroValue4
 t22:=Tryz.underlying32
 a22:=Tryz.isAgg32
 z22:=Tryz.sizeOf32
 v22:=Tryz.zeroValue32
 i3:=by kernel_rfl }
open Go.RowKit Go.Lib Go.Sort in
theorem Tryz.slices_Compact_int (blk off cap:Nat) (zs:List Int) (w:World) (hH:Holds (Value.int .i64) w blk off zs.toArray) (hsz:zs.length<=9223372036854775807) (hcap:zs.length<=cap) :
  Calls Tryz.prog 199 #[.slice (some ⟨blk,off,none⟩) zs.length cap] w fun e w'=>e=.returned (.slice (some ⟨blk,off,none⟩) (Lib.compact zs).length cap)/\∃ q,w'=putRow (Value.int .i64) (Sort.ahead w q) blk off (Lib.compact zs++List.replicate (zs.length-(Lib.compact zs).length) 0).toArray:=Any.slices_Compact_int Tryz.laysNm220 blk off cap zs w hH hsz hcap
end Go.Proofs
namespace Go.Proofs.YtlejhfnjmkdobaaGreatDoor
open Go.Proofs.Tryz
namespace B2
open ChangeShapes WideShapes ChangeAt RowKit
theorem clone_any (s:ByteArray) (w:World) (hs:s.size<=281474976710656) :
  Calls prog 110 #[.string s] w (Rb (.string s) w):=by
 go_enter func110,ntmps110
 go_wp2_with (go_at_call 152;refine (Tryz.stringslite_Clone _ _ hs).mono ?_;rintro e w' ⟨rfl,hb⟩)
 go_ret;exact ⟨rfl,hb⟩
theorem part_size (s:ByteArray) (i n:Int):(part s i n).size<=s.size:=by
 unfold part
 split
 ·simp only[ByteArray.size_extract];omega
 ·exact Nat.zero_le _
theorem impl_Part (s:ByteArray) (i n:Int) (w:World) (hs:s.size<=281474976710656) :
  Calls prog 124 #[.string s,Iv i,Iv n] w (Rb (.string (part s i n)) w):=by
 have hs':s.size<=maxLen:=by unfold maxLen;omega
 have hz:=part_size s i n
 by_cases h:lies s.size i n=true
 ·have e:part s i n=s.extract i.toNat (i+n).toNat:=by rw[part,h];rfl
  rw[e] at hz ⊢;obtain ⟨h1,h2,h3⟩:=lies_true h
  have h5:i<=i+n:=by omega
  have h6:i+n<=(s.size:Int):=by omega
  go_enter func124,ntmps124
  go_wp2_with (first | (go_at_call 160;refine (liesIn_any _ _ _ _ hs').mono ?_;rintro e w' ⟨rfl,rfl⟩) | (go_at_call 110;refine (clone_any _ _ (by omega)).mono ?_;rintro e w' ⟨rfl,hb⟩))
  go_ret;exact ⟨rfl,hb⟩
 ·have h':lies s.size i n=false:=by simpa using h
  have e:part s i n=⟨#[]⟩:=by rw[part,h'];rfl
  rw[e];go_enter func124,ntmps124
  go_wp2_with (go_at_call 160;refine (liesIn_any _ _ _ _ hs').mono ?_;rintro e w' ⟨rfl,rfl⟩)
  go_ret;exact ⟨rfl,Below.refl _ _⟩
end B2
namespace B2
open ChangeShapes WideShapes ChangeAt RowKit
set_option maxRecDepth 4000 in
theorem spec_Part (s:ByteArray) (i n:Int) (w:World) (hs:s.size<=maxLen) (wi:(Lit.int .i64 i).wf=true) (wn:(Lit.int .i64 n).wf=true) :
  Calls prog 58 #[.string s,Iv i,Iv n] w (Rw (.string (part s i n)) w):=by
 unfold maxLen at hs
 by_cases h1:i<0
 ·have e:part s i n=⟨#[]⟩:=by rw[part,show lies s.size i n=false from decide_eq_false fun h=>by omega];rfl
  rw[e];go_enter func58,ntmps58;go_wp2;go_ret;exact ⟨rfl,rfl⟩
 ·by_cases h2:n<0
  ·have e:part s i n=⟨#[]⟩:=by rw[part,show lies s.size i n=false from decide_eq_false fun h=>by omega];rfl
   rw[e];go_enter func58,ntmps58;go_wp2;go_ret;exact ⟨rfl,rfl⟩
  ·by_cases h3:(s.size:Int)<n
   ·have e:part s i n=⟨#[]⟩:=by rw[part,show lies s.size i n=false from decide_eq_false fun h=>by omega];rfl
    rw[e];go_enter func58,ntmps58;go_wp2;go_ret;exact ⟨rfl,rfl⟩
   ·by_cases h4:(s.size:Int)-n<i
    ·have e:part s i n=⟨#[]⟩:=by rw[part,show lies s.size i n=false from decide_eq_false fun h=>by omega];rfl
     rw[e];go_enter func58,ntmps58;go_wp2;go_ret;exact ⟨rfl,rfl⟩
    ·have e:part s i n=s.extract i.toNat (i+n).toNat:=by rw[part,show lies s.size i n=true from decide_eq_true (by omega)];rfl
     rw[e]
     have h5:i<=i+n:=by omega
     have h6:i+n<=(s.size:Int):=by omega
     go_enter func58,ntmps58;go_wp2;go_ret;exact ⟨rfl,rfl⟩
end B2
end Go.Proofs.YtlejhfnjmkdobaaGreatDoor
