/- Joined texts. -/
import Derived.Test.YtidmmopnkjbjoaaGreatDoorJpA
set_option linter.unusedVariables false
set_option linter.unusedSimpArgs false
set_option maxRecDepth 10000
set_option maxHeartbeats 16000000
namespace Go.Proofs.YtidmmopnkjbjoaaGreatDoor
open ChangeShapes WideShapes ChangeAt RowKit
open Go.Proofs.Tryz
def aW (x a b:Int):Bool:=decide (a<=x/\x<=b)
theorem pL {x a b:Int} (h:aW x a b=true):a<=x/\x<=b:=by simpa [aW] using h
theorem Xn {x a b:Int} (h:aW x a b=false):¬ (a<=x/\x<=b):=by simpa [aW] using h
theorem cH (x a b:Int) (w:World):Calls prog 26 #[ad x,ad a,ad b] w (dp (.bool (aW x a b)) w):=by
 by_cases h1:a<=x
 ·by_cases h2:x<=b
  ·have e:aW x a b=true:=by simp[aW,h1,h2]
   rw[e];go_enter func26,ntmps26;go_wp2;go_ret;exact ⟨rfl,rfl⟩
  have e:aW x a b=false:=by simp[aW,h2]
  have h2':decide (x<=b)=false:=by simpa using h2
  rw[e];go_enter func26,ntmps26;go_wp2;go_ret;exact ⟨rfl,rfl⟩
 have e:aW x a b=false:=by simp[aW,h1]
 have h1':decide (a<=x)=false:=by simpa using h1
 rw[e];go_enter func26,ntmps26;go_wp2;go_ret;exact ⟨rfl,rfl⟩
section
variable {P : Program}
theorem nT (b o j:Nat):(⟨b,o,none⟩:Addr).add j=⟨b,o+j,none⟩:=by unfold Addr.add;split <;> simp_all
def tG (w:World) (b o:Nat) (l:List UInt8):Prop:=∀ j (hj:j<l.length),w.cell? ⟨b,o+j,none⟩=some (.int .u8 (l[j].toNat:Int))
theorem qE (w:World) (src dst e:TypeId) (b o cap:Nat) (l:List UInt8) (hs:P.underlying src=some (.slice e)) (he:P.underlying e=some (.int .u8)) (hd:P.underlying dst=some .string) (h:tG w b o l) (n:Nat) (hn:n=l.length):(convert src dst (.slice (some ⟨b,o,none⟩) n cap)).run P w=.ok (.string ⟨l.toArray⟩) w:=by subst hn;exact run_convert_bytes_back w src dst e ⟨b,o,none⟩ cap l hs he hd (fun j hj=>by rw[nT];exact h j hj)
theorem H9 (w:World) (C:Array Value) (T:TypeId) (fr:Nat × Nat) (l:List UInt8) (h:∀ j (hj:j<l.length),C[j]? = some (.int .u8 (l[j].toNat:Int))):tG (w.alloc (.cells C T fr)) w.heap.size 0 l:=fun j hj=>by rw[cR,rV];exact h j hj
theorem Xo (w:World) (src dst e:TypeId) (s:ByteArray) (hs:P.underlying src=some .string) (hd:P.underlying dst=some (.slice e)) (he:P.underlying e=some (.int .u8)):∃ W cap,(convert src dst (.string s)).run P w=.ok (bg w.heap.size s.size cap) W/\s.size<=cap/\aj w W/\w.heap.size<W.heap.size/\tG W w.heap.size 0 s.data.toList/\∀ j,j<s.size->W.frozen? ⟨w.heap.size,j,none⟩=false:=by
 have hc:s.size<=grownCap w s.size 0 e:=grownCap_ge w s.size 0 e;refine ⟨_,_,run_bytes_of_string w src dst e s hs hd he,hc,?_,?_,?_,?_⟩;·exact (aK _ w).drew.alloc (aq _) _
 ·show w.heap.size<(w.heap.push _).size
  simp
 ·refine H9 w.drew _ _ _ _ fun j hj=>?_;have hj':j<s.data.size:=by simpa using hj
  rw[bytesRow_at s _ j hj'];simp
 intro j hj;have:=AP w.drew (bytesRow s (grownCap w s.size 0 e)) e (bytesRow s (grownCap w s.size 0 e)).size ((bytesRow s (grownCap w s.size 0 e)).size+1) j;refine this.trans ?_;have hb:s.size<=(bytesRow s (grownCap w s.size 0 e)).size:=by have:s.data.size=s.size:=rfl;simp[bytesRow]
 have:¬ (bytesRow s (grownCap w s.size 0 e)).size<=j:=by omega
 simp[this]
theorem qF {B b:Nat} {a:World} (hb:B<=b):∀ (vs:List Value) (o:Nat) (w:World),Below B a w->Below B a (w.setCells b o vs)
 | [],_,_,h=>h
 | v :: r,o,w,h=>qF hb r (o+1) _ (h.setCell (by simpa using hb) v)
theorem yP (b:Nat):∀ (vs:List Value) (o:Nat) (w:World),(w.setCells b o vs).heap.size=w.heap.size
 | [],_,_=>rfl
 | v :: r,o,w=>by rw[World.setCells,yP b r];simp
theorem NJ (b:Nat):∀ (vs:List Value) (o:Nat) (w:World) (x:Addr),(w.cell? x).isSome=true->((w.setCells b o vs).cell? x).isSome=true
 | [],_,_,_,h=>h
 | v :: r,o,w,x,h=>by
  rw[World.setCells];refine NJ b r (o+1) _ x ?_;by_cases e:(⟨b,o,none⟩:Addr)=x
  ·subst e;obtain ⟨u,hu⟩:=aiJ.1 h;rw[rW _ _ _ hu];rfl
  ·rw[fJ _ _ _ _ e];exact h
theorem Xp (w:World) (dT sT ty elem:TypeId) (b o dLen dCap:Nat) (t:ByteArray) (hu:P.underlying dT=some (.slice elem)) (hs:(P.info? elem).map (·.size)=some 1) (hle:t.size<=dLen) (hc:∀ j,j<t.size->(w.cell? ⟨b,o+j,none⟩).isSome=true) (hf:∀ j,j<t.size->w.frozen? ⟨b,o+j,none⟩=false):(Builtin.copy_ #[dT,sT] ty #[.slice (some ⟨b,o,none⟩) dLen dCap,.string t]).run P w=.ok (goInt t.size) (w.setCells b o (Lib.byteCells t.data.toList)):=by
 have hlen:(Lib.byteCells t.data.toList).length=t.size:=by rw[my,<- cV]
 have hst:=run_storeCells_cells (P:=P) b o (Lib.byteCells t.data.toList) 0 w (by rw[hlen];simpa using hc) (by rw[hlen];simpa using hf) (DR _);have hmin:Nat.min t.size dLen=t.size:=Nat.min_eq_left hle;have htk:List.take t.size (List.map (fun b:UInt8=>Value.int IntKind.u8 (b.toNat:Int)) t.data.toList)=Lib.byteCells t.data.toList:=by rw[qx (by rw[DS,<- cV];exact aq _)];rfl
 cases hq:P.info? elem with
 | none=>simp[hq] at hs
 | some i=>
  simp[Builtin.copy_,Ho hu,Builtin.lenOf,Builtin.firstCells,sizeOf,typeInfo,hq,hmin,htk,hst]
theorem Xq (W:World) (b:Nat) (s t:List UInt8) (k:Nat) (hk:k+t.length<=s.length) (h:tG W b 0 s):tG (W.setCells b k (Lib.byteCells t)) b 0 (s.take k++t++s.drop (k+t.length)):=by
 have hl:(Lib.byteCells t).length=t.length:=my t;have hin:∀ j,j<(Lib.byteCells t).length->(W.cell? ⟨b,k+j,none⟩).isSome=true:=fun j hj=>by have:=h (k+j) (by omega);rw[cR] at this;rw[this];rfl
 intro j hj;have hj':j<s.length:=by simp at hj;omega
 rw[cR];by_cases h1:j<k
 ·rw[Nj b _ k W _ (fun _ _=>Or.inl h1)];have:=h j hj';rw[cR] at this;rw[this,Hp (by simp;omega),Hp (by simp;omega),Nk]
 by_cases h2:j<k+t.length
 ·have:=World.cell?_setCells_in b (Lib.byteCells t) k W hin (j-k) (by omega);rw[show k+(j-k)=j by omega] at this;rw[this,Hp (by simp;omega),Nl (by simp;omega)];have hm:min k s.length=k:=by omega
  simp[Lib.byteCells,hm]
 rw[Nj b _ k W _ (fun _ _=>Or.inr (by rw[hl];show k+t.length<=j;omega))];have:=h j hj';rw[cR] at this;have e:k+t.length+(j-(s.take k++t).length)=j:=by rw[bY,fO];omega
 rw[this,Nl (by simp;omega),List.getElem_drop];simp only[e]
end
def gF (k:Nat):ByteArray:=⟨Array.replicate k 0⟩
def bB (n:Int):ByteArray:=if n<=5000 then gF n.toNat else ⟨#[]⟩
theorem Xr (k:Nat):gF k ++ ⟨#[0]⟩=gF (k+1):=by apply gm;simp[gF,Nn]
theorem ni (k:Nat):(gF k).size=k:=by simp[gF,ByteArray.size]
theorem Xs:(prog.info? 5).map (fun i=>(i.zero,i.size,i.bytes))=some (some (.int .u8 0),1,1):=by kernel_rfl
theorem nj (n:Int) (w:World):Calls prog 75 #[ad n] w (dp (.string (bB n)) w):=by
 by_cases h:n<=5000
 ·have e:bB n=gF n.toNat:=by rw[bB,aF h]
  rw[e];go_enter func75,ntmps75;go_wp2;go_loop [3,4] (fun t i=>∃ k:Nat,k<=n.toNat/\i=ad k/\t=.string (gF k)) (fun _ i=>n.toNat-(intOf i).toNat)
  case atStart=>exact ⟨0,aS _,rfl,rfl⟩
  case round=>
  obtain ⟨k,hk,rfl,rfl⟩:=hrel;by_cases hlt:(k:Int)<n
  ·have hz:(gF k).size+1<=9223372036854775807:=by rw[ni];omega
   go_wp2;go_round;case rel=>exact ⟨k+1,by omega,by go_num,by first | rfl | rw[<- Xr]⟩
   case measure=>simp[intOf];omega
  have hf:decide ((k:Int)<n)=false:=by simpa using hlt
  go_wp2;go_ret;have hk':k=n.toNat:=by omega
  exact ⟨by rw[<- hk'];rfl,rfl⟩
 have e:bB n=⟨#[]⟩:=by rw[bB,aG h]
 have hf:decide (n<=5000)=false:=by simpa using h
 rw[e];go_enter func75,ntmps75;go_wp2;go_loop [3,4] (fun t i=>i=ad 0/\t=.string ⟨#[]⟩) (fun _ _=>0)
 case atStart=>exact ⟨rfl,rfl⟩
 case round=>
 obtain ⟨rfl,rfl⟩:=hrel;go_wp2;go_ret;exact ⟨rfl,rfl⟩
set_option maxRecDepth 4000 in
theorem Bf (n:Int) (w:World):Calls prog 98 #[ad n] w (aT (.string (bB n)) w):=by
 by_cases h1:n<0
 ·have e:bB n=⟨#[]⟩:=by rw[bB,aF (by omega),show n.toNat=0 by omega];rfl
  rw[e];go_enter func98,ntmps98;go_wp2;go_ret;exact ⟨rfl,aK _ _⟩
 by_cases h2:5000<n
 ·have e:bB n=⟨#[]⟩:=by rw[bB,aG (by omega)]
  rw[e];go_enter func98,ntmps98;go_wp2;go_ret;exact ⟨rfl,aK _ _⟩
 have e:bB n=gF n.toNat:=by rw[bB,aF (by omega)]
 rw[e];obtain ⟨i0,hi,hz0,hz1,hz2⟩:=iW Xs;obtain ⟨M,hM⟩:∃ M,M=madeCells (Value.int .u8 0).cells (n.toNat*i0.size):=⟨_,rfl⟩;have hmk:∀ W:World,(Instr.makeSlice 22 (ad n) (ad n)).run prog W=.ok (bg W.heap.size n.toNat n.toNat) (W.alloc (.cells M 5)):=fun W=>by have h:=run_make (P:=prog) W 22 5 i0 (.int .u8 0) underlying22 hi hz0 .i64 .i64 n n (by omega) (by omega) (by rw[hz2];omega) (by omega);rwa [<- hM] at h
 have hcv:∀ W:World,(convert 22 9 (bg W.heap.size n.toNat n.toNat)).run prog (W.alloc (.cells M 5))=.ok (.string (gF n.toNat)) (W.alloc (.cells M 5)):=fun W=>by
  have h:=qE (P:=prog) (W.alloc (.cells M 5)) 22 9 5 W.heap.size 0 n.toNat (List.replicate n.toNat 0) underlying22 underlying5 underlying9
   (H9 _ _ _ _ _ fun j hj=>by
    have hj':j<n.toNat:=by simpa using hj
    rw[hM,<- Hq,show (Value.int .u8 0).cells=#[Value.int .u8 0] from rfl,toList_madeCells_one,hz1]
    simp[hj']) n.toNat (by simp)
  have e2:(⟨(List.replicate n.toNat (0:UInt8)).toArray⟩:ByteArray)=gF n.toNat:=by simp[gF]
  rwa [e2] at h
 clear hM;clear hi hz0 hz1 hz2;go_enter func98,ntmps98;go_wp2;go_ret;exact ⟨rfl,by go_grown⟩
def cZ (z:Nat) (i n:Int):Bool:=decide (0<=i/\0<=n/\n<=(z:Int)-i)
theorem si {z:Nat} {i n:Int} (h:cZ z i n=true):0<=i/\0<=n/\n<=(z:Int)-i:=by simpa [cZ] using h
theorem Xt {z:Nat} {i n:Int} (h:cZ z i n=false):¬ (0<=i/\0<=n/\n<=(z:Int)-i):=WK h
theorem tH (s:ByteArray) (i n:Int) (w:World) (hs:s.size<=maxLen):Calls prog 139 #[.string s,ad i,ad n] w (dp (.bool (cZ s.size i n)) w):=by
 unfold maxLen at hs;by_cases h1:0<=i
 ·by_cases h2:0<=n
  ·by_cases h3:i<=(s.size:Int)
   ·by_cases h4:n<=(s.size:Int)-i
    ·have e:cZ s.size i n=true:=bF ⟨h1,h2,h4⟩;rw[e];go_enter func139,ntmps139;go_wp2;go_ret;exact ⟨rfl,rfl⟩
    have e:cZ s.size i n=false:=bq fun h=>h4 h.2.2;have h4':decide (n<=(s.size:Int)-i)=false:=by simpa using h4
    rw[e];go_enter func139,ntmps139;go_wp2;go_ret;exact ⟨rfl,rfl⟩
   have e:cZ s.size i n=false:=bq fun h=>by omega
   have h3':decide (i<=(s.size:Int))=false:=by simpa using h3
   rw[e];go_enter func139,ntmps139;go_wp2;go_ret;exact ⟨rfl,rfl⟩
  have e:cZ s.size i n=false:=bq fun h=>by omega
  have h2':decide (0<=n)=false:=by simpa using h2
  rw[e];go_enter func139,ntmps139;go_wp2;go_ret;exact ⟨rfl,rfl⟩
 have e:cZ s.size i n=false:=bq fun h=>by omega
 have h1':decide (0<=i)=false:=by simpa using h1
 rw[e];go_enter func139,ntmps139;go_wp2;go_ret;exact ⟨rfl,rfl⟩
def aO (s:ByteArray) (i n:Int):ByteArray:=if cZ s.size i n then s.extract i.toNat (i+n).toNat else ⟨#[]⟩
def bJ (s:ByteArray) (i:Int) (t:ByteArray):ByteArray:=if cZ s.size i t.size then s.extract 0 i.toNat++t++s.extract (i+t.size).toNat s.size else s
theorem sk (s:ByteArray) (i:Int) (t:ByteArray) (w:World) (hs:s.size<=281474976710656) (ht:t.size<=281474976710656):Calls prog 60 #[.string s,ad i,.string t] w fun e w'=>e=.returned (.string (bJ s i t))/\∃ n,w'=w.drewN n:=by
 by_cases h1:i<0
 ·have e:bJ s i t=s:=by rw[bJ,show cZ s.size i t.size=false from bq fun h=>by omega];rfl
  rw[e];go_enter func60,ntmps60;go_wp2;go_ret;exact ⟨rfl,0,rfl⟩
 by_cases h3:(s.size:Int)<(t.size:Int)
 ·have e:bJ s i t=s:=by rw[bJ,show cZ s.size i t.size=false from bq fun h=>by omega];rfl
  rw[e];go_enter func60,ntmps60;go_wp2;go_ret;exact ⟨rfl,0,rfl⟩
 by_cases h4:(s.size:Int)-(t.size:Int)<i
 ·have e:bJ s i t=s:=by rw[bJ,show cZ s.size i t.size=false from bq fun h=>by omega];rfl
  rw[e];go_enter func60,ntmps60;go_wp2;go_ret;exact ⟨rfl,0,rfl⟩
 have e:bJ s i t=s.extract 0 i.toNat++t++s.extract (i+t.size).toNat s.size:=by rw[bJ,show cZ s.size i t.size=true from bF (by omega)];rfl
 rw[e];have h5:i<=(s.size:Int):=by omega
 have h6:i+(t.size:Int)<=(s.size:Int):=by omega
 have h7:0<=i+(t.size:Int):=by omega
 have z1:(s.extract 0 i.toNat).size<=s.size:=by simp only[lU];omega
 have z2:(s.extract (i+t.size).toNat s.size).size<=s.size:=by simp only[lU];omega
 have z3:(s.extract 0 i.toNat).size+t.size<=9223372036854775807:=by omega
 have z4:(s.extract 0 i.toNat++t).size+(s.extract (i+t.size).toNat s.size).size<=9223372036854775807:=by rw[fk];omega
 go_enter func60,ntmps60;go_wp2;go_quiet (fail);go_wp2;go_ret;exact ⟨rfl,_,rfl⟩
theorem D9 (s:ByteArray) (k:Nat) (t:ByteArray) (h:k+t.size<=s.size):s.extract 0 k++t++s.extract (k+t.size) s.size=⟨(s.data.toList.take k++t.data.toList++s.data.toList.drop (k+t.data.toList.length)).toArray⟩:=by
 apply gm;apply jB.1;have e1:(s.data.toList.drop (k+t.data.toList.length)).take (s.size-(k+t.size))=s.data.toList.drop (k+t.data.toList.length):=
  qx (by rw[jC,<- cV,<- cV];omega)
 simp only[mz,rX,pE,DT,AR];rw[cV t] at *;rw[e1]
theorem NK:(prog.info? 5).map (·.size)=some 1:=by kernel_rfl
theorem yQ (s:ByteArray) (i:Int) (t:ByteArray) (w:World) (hs:s.size<=281474976710656) (ht:t.size<=281474976710656):Calls prog 97 #[.string s,ad i,.string t] w (aT (.string (bJ s i t)) w):=by
 have hs':s.size<=maxLen:=by unfold maxLen;omega
 obtain ⟨W,cap,hcv,hcap,hb,hz,hH,hF⟩:=Xo (P:=prog) w 9 22 5 s underlying9 underlying22 underlying5;have hlen:s.data.toList.length=s.size:=(cV s).symm;have hself:(⟨s.data.toList.toArray⟩:ByteArray)=s:=yL s;have hback:(convert 22 9 (bg w.heap.size s.size cap)).run prog W=.ok (.string s) W:=by have:=qE (P:=prog) W 22 9 5 w.heap.size 0 cap s.data.toList underlying22 underlying5 underlying9 hH s.size hlen.symm;rwa [hself] at this
 by_cases h:cZ s.size i t.size=true
 ·obtain ⟨h1,h2,h3⟩:=si h;have e:bJ s i t=s.extract 0 i.toNat++t++s.extract (i+t.size).toNat s.size:=by rw[bJ,h];rfl
  by_cases h0:t.size=0
  ·have e':bJ s i t=s:=by
    rw[e,show (i+(t.size:Int)).toNat=i.toNat+t.size by omega,D9 s i.toNat t (by omega)];have:t.data.toList=[]:=mW (by rw[<- cV];exact h0);rw[this];simp
   have hcp:∀ d dl dc W',(Builtin.copy_ #[22,9] 3 #[.slice d dl dc,.string t]).run prog W'=.ok (goInt 0) W':=fun d dl dc W'=>
    Lib.run_copy_empty_string W' 22 9 3 5 d dl dc t underlying22 (by rw[NK];rfl) h0
   rw[e'];clear hH hF e e' hself h0;by_cases h9:cap=i.toNat
   ·subst h9;go_enter func97,ntmps97;go_wp2_with (go_at_call 139;refine (tH _ _ _ _ hs').mono ?_;rintro e w' ⟨rfl,rfl⟩);go_ret;exact ⟨rfl,hb⟩
   go_enter func97,ntmps97;go_wp2_with (go_at_call 139;refine (tH _ _ _ _ hs').mono ?_;rintro e w' ⟨rfl,rfl⟩);go_ret;exact ⟨rfl,hb⟩
  have h9:¬ cap=i.toNat:=by omega
  have htl:t.data.toList.length=t.size:=(cV t).symm;have hcp:=Xp (P:=prog) W 22 9 3 5 w.heap.size i.toNat (s.size-i.toNat) (cap-i.toNat) t underlying22 NK (by omega)
   (fun j hj=>by have:=hH (i.toNat+j) (by omega);rw[cR] at this;rw[this];rfl) (fun j hj=>hF _ (by omega))
  have hH2:=Xq W w.heap.size s.data.toList t.data.toList i.toNat (by omega) hH;have hb2:aj w (W.setCells w.heap.size i.toNat (Lib.byteCells t.data.toList)):=qF (aq _) _ _ _ hb;obtain ⟨W2,hW2⟩:∃ W2,W2=W.setCells w.heap.size i.toNat (Lib.byteCells t.data.toList):=⟨_,rfl⟩;rw[<- hW2] at hcp hH2 hb2;have hback2:(convert 22 9 (bg w.heap.size s.size cap)).run prog W2=.ok (.string (bJ s i t)) W2:=by have:=qE (P:=prog) W2 22 9 5 w.heap.size 0 cap _ underlying22 underlying5 underlying9 hH2 s.size (by simp;omega);rw[e,show (i+(t.size:Int)).toNat=i.toNat+t.size by omega,D9 s i.toNat t (by omega)];exact this
  clear hH hF hH2 hW2 e hself hback h0 hlen htl;go_enter func97,ntmps97;go_wp2_with (go_at_call 139;refine (tH _ _ _ _ hs').mono ?_;rintro e w' ⟨rfl,rfl⟩);go_ret;exact ⟨rfl,hb2⟩
 have h':cZ s.size i t.size=false:=by simpa using h
 have e:bJ s i t=s:=by rw[bJ,h'];rfl
 rw[e];clear hH hF e hself;go_enter func97,ntmps97;go_wp2_with (go_at_call 139;refine (tH _ _ _ _ hs').mono ?_;rintro e w' ⟨rfl,rfl⟩);go_ret;exact ⟨rfl,hb⟩
def aP (s:ByteArray) (i:Int):Int:=if h:0<=i/\i<s.size then (s[i.toNat]'(by omega)).toNat else 0
theorem Bg (s:ByteArray) (i:Int) (w:World) (hs:s.size<=maxLen):Calls prog 175 #[.string s,ad i] w (dp (ad (aP s i)) w):=by
 unfold maxLen at hs;by_cases h:0<=i/\i<s.size
 ·have hin:aW i 0 ((s.size:Int)-1)=true:=by simp[aW];omega
  have e:aP s i=(s[i.toNat]'(by omega)).toNat:=by simp[aP,h]
  obtain ⟨h1,h2⟩:=h;rw[e];have hb:=(s[i.toNat]'(by omega)).toNat_lt;go_enter func175,ntmps175;go_wp2_with (go_at_call 26;refine (cH _ _ _ _).mono ?_;rintro e w' ⟨rfl,rfl⟩);go_ret;exact ⟨rfl,rfl⟩
 have hin:aW i 0 ((s.size:Int)-1)=false:=by simp[aW];omega
 have e:aP s i=0:=by simp[aP,h]
 rw[e];go_enter func175,ntmps175;go_wp2_with (go_at_call 26;refine (cH _ _ _ _).mono ?_;rintro e w' ⟨rfl,rfl⟩);go_ret;exact ⟨rfl,rfl⟩
theorem yR (s:ByteArray) (i:Int) (w:World) (hs:s.size<=maxLen):Calls prog 227 #[.string s,ad i] w (dp (ad (aP s i)) w):=by
 unfold maxLen at hs;by_cases h:0<=i/\i<s.size
 ·have e:aP s i=(s[i.toNat]'(by omega)).toNat:=by simp[aP,h]
  obtain ⟨h1,h2⟩:=h;rw[e];have hb:=(s[i.toNat]'(by omega)).toNat_lt;have h1':¬ i<0:=by omega
  go_enter func227,ntmps227;go_wp2;go_ret;exact ⟨rfl,rfl⟩
 have e:aP s i=0:=by simp[aP,h]
 rw[e];by_cases h1:i<0
 ·go_enter func227,ntmps227;go_wp2;go_ret;exact ⟨rfl,rfl⟩
 have h2:(s.size:Int)<=i:=by omega
 go_enter func227,ntmps227;go_wp2;go_ret;exact ⟨rfl,rfl⟩
def iJ (c:UInt8):Bool:=decide (97<=c.toNat/\c.toNat<=122) || (decide (48<=c.toNat/\c.toNat<=57) || decide (c.toNat=46))
theorem NL {c:UInt8} (h:iJ c=false):¬ (97<=c.toNat/\c.toNat<=122)/\¬ (48<=c.toNat/\c.toNat<=57)/\¬ c.toNat=46:=by simp only[iJ,Bool.or_eq_false_iff,qy] at h;exact h
theorem NM {c:UInt8} (h:iJ c=true):(97<=c.toNat/\c.toNat<=122)\/(48<=c.toNat/\c.toNat<=57)\/c.toNat=46:=by simp only[iJ,kY,dC] at h;exact h
def Ea (s:ByteArray):Bool:=s.toList == [46]
def Eb (s:ByteArray):Bool:=s.toList == [46,46]
def gQ (s:ByteArray):Bool:=s.data.toList.all iJ && (aW s.size 1 14 && (!Ea s && !Eb s))
def eR (i:Int) (s:ByteArray):Bool:=gQ s && aW i 1 7
theorem Xu (s:ByteArray) (k:Nat) (h:k<s.size):s.data.toList.take (k+1)=s.data.toList.take k ++ [s[k]]:=by rw[kr (by rw[<- cV];exact h)];rfl
theorem NN (s:ByteArray):s.data.toList.take s.size=s.data.toList:=qx (by rw[<- cV];exact aq _)
theorem NO {s:ByteArray} {k:Nat} (h:k<s.size) (ha:(s.data.toList.take k).all iJ=true) (hc:iJ s[k]=true):(s.data.toList.take (k+1)).all iJ=true:=by rw[Xu s k h];simp only[List.all_append,List.all_cons,List.all_nil,DU,cj];exact ⟨ha,hc⟩
theorem Xv {s:ByteArray} {k:Nat} (hk:k<s.size) (h:iJ s[k]=false):s.data.toList.all iJ=false:=by
 rw[WM];refine ⟨s[k],?_,by rw[h];decide⟩;have hk':k<s.data.toList.length:=by rw[<- cV];exact hk
 exact nQ hk'
theorem Ia {s:ByteArray} {k:Nat} (hk:k<s.size) (h:iJ s[k]=false):gQ s=false:=by rw[gQ,Xv hk h];rfl
theorem NP {s:ByteArray} (h:s.data.toList.all iJ=true):gQ s=(aW s.size 1 14 && (!Ea s && !Eb s)):=by rw[gQ,h];rfl
theorem Ec {s:ByteArray} (h:gQ s=true):1<=s.size/\s.size<=14:=by simp only[gQ,cj] at h;have:=pL h.2.1;omega
theorem Bh {i:Int} {s:ByteArray} (h:eR i s=true):gQ s=true/\(1<=i/\i<=7):=by simp only[eR,cj] at h;exact ⟨h.1,pL h.2⟩
def Bi (i:Int) (s:ByteArray):ByteArray:=⟨#[UInt8.ofNat i.toNat,UInt8.ofNat s.size]⟩++s
def gG (i:Int) (s:ByteArray):ByteArray:=if eR i s then Bi i s++gF (14-s.size) else ⟨#[]⟩
theorem Xw (i:Int) (s:ByteArray):(Bi i s).size=2+s.size:=by rw[Bi,fk];rfl
theorem NQ (t:ByteArray) (n:Nat) (h:t.size<=n):bJ (gF n) 0 t=t++gF (n-t.size):=by
 have hz:=ni n;rw[bJ,show cZ (gF n).size 0 t.size=true from bF (by omega),aF rfl]
 have h2:((0:Int)+(t.size:Int)).toNat=0+t.size:=by omega
 rw[h2];have:=D9 (gF n) 0 t (by omega);rw[show ((0:Int)).toNat=0 from rfl,this]
 apply gm;simp only[mz];apply jB.1;simp only[rX,List.take_zero,iX,cR,gF,aiK,List.drop_replicate];rw[<- cV]
theorem kt {a b:Bool} (h:a=b):Ending.returned (.bool a)=.returned (.bool b):=by rw[h]
theorem Xx (c:UInt8):aW (c.toNat:Int) 97 122=decide (97<=c.toNat/\c.toNat<=122):=by unfold aW;rw[No];omega
theorem Xy (c:UInt8):aW (c.toNat:Int) 48 57=decide (48<=c.toNat/\c.toNat<=57):=by unfold aW;rw[No];omega
set_option maxRecDepth 4000 in
theorem Xz (i:Int) (s:ByteArray) (w:World) (hs:s.size<=281474976710656):Calls prog 204 #[.agg #[ad i,.string s]] w fun e w'=>e=.returned (.bool (eR i s))/\w'=w.alloc (.cells #[ad i,.string s] 147):=by
 go_enter func204,ntmps204;go_wp2;go_loop [3] (fun t=>∃ k:Nat,k<=s.size/\(s.data.toList.take k).all iJ=true/\t=ad k) (fun t=>s.size-(intOf t).toNat)
 case atStart=>exact ⟨0,aS _,rfl,rfl⟩
 case round=>
 obtain ⟨k,hk,hall,rfl⟩:=hrel;by_cases hlt:k<s.size
 ·have hc:=s[k].toNat_lt;have hi1:=Xx s[k];have hi2:=Xy s[k];by_cases hd:iJ s[k]=true
  ·have HA:Hid ((s.data.toList.take (k+1)).all iJ=true):=NO hlt hall hd;have hcase:=NM hd;clear hall hd;by_cases h1:97<=s[k].toNat/\s[k].toNat<=122
   ·rw[bF h1] at hi1;clear hcase hi2;go_wp2_with (go_at_call 26;refine (cH _ _ _ _).mono ?_;rintro e w' ⟨rfl,rfl⟩);go_round;case rel=>exact ⟨k+1,by omega,HA.out,by go_num⟩
    case measure=>simp[intOf];omega
   rw[bq h1] at hi1;by_cases h2:48<=s[k].toNat/\s[k].toNat<=57
   ·rw[bF h2] at hi2;clear hcase;go_wp2_with (go_at_call 26;refine (cH _ _ _ _).mono ?_;rintro e w' ⟨rfl,rfl⟩);go_round;case rel=>exact ⟨k+1,by omega,HA.out,by go_num⟩
    case measure=>simp[intOf];omega
   rw[bq h2] at hi2;have h3:((s[k].toNat:Int) != 46)=false:=by simp;omega
   clear hcase;go_wp2_with (go_at_call 26;refine (cH _ _ _ _).mono ?_;rintro e w' ⟨rfl,rfl⟩);go_round;case rel=>exact ⟨k+1,by omega,HA.out,by go_num⟩
   case measure=>simp[intOf];omega
  have hd':iJ s[k]=false:=by simpa using hd
  obtain ⟨n1,n2,n3⟩:=NL hd';rw[bq n1] at hi1;rw[bq n2] at hi2;have h3:((s[k].toNat:Int) != 46)=true:=by simp;omega
  have HR:Hid (eR i s=false):=by rw[eR,Ia hlt hd'];rfl
  clear hall hd hd';go_wp2_with (go_at_call 26;refine (cH _ _ _ _).mono ?_;rintro e w' ⟨rfl,rfl⟩);go_ret;exact ⟨kt HR.out.symm,rfl⟩
 obtain rfl:k=s.size:=by omega
 rw[NN] at hall;have HR:Hid (eR i s=((aW s.size 1 14 && (!(s.toList == [46]) && !(s.toList == [46,46]))) && aW i 1 7)):=by rw[eR,NP hall];rfl
 clear hall;by_cases h1:aW i 1 7=true
 ·by_cases h2:aW s.size 1 14=true
  ·by_cases h3:(s.toList == [46])=true
   ·go_wp2_with (go_at_call 26;refine (cH _ _ _ _).mono ?_;rintro e w' ⟨rfl,rfl⟩);go_ret;exact ⟨kt (by rw[HR.out,h1,h2,h3];rfl),rfl⟩
   have h3':(s.toList == [46])=false:=by simpa using h3
   by_cases h4:(s.toList == [46,46])=true
   ·go_wp2_with (go_at_call 26;refine (cH _ _ _ _).mono ?_;rintro e w' ⟨rfl,rfl⟩);go_ret;exact ⟨kt (by rw[HR.out,h1,h2,h3',h4];rfl),rfl⟩
   have h4':(s.toList == [46,46])=false:=by simpa using h4
   go_wp2_with (go_at_call 26;refine (cH _ _ _ _).mono ?_;rintro e w' ⟨rfl,rfl⟩);go_ret;exact ⟨kt (by rw[HR.out,h1,h2,h3',h4'];rfl),rfl⟩
  have h2':aW s.size 1 14=false:=by simpa using h2
  go_wp2_with (go_at_call 26;refine (cH _ _ _ _).mono ?_;rintro e w' ⟨rfl,rfl⟩);go_ret;exact ⟨kt (by rw[HR.out,h1,h2'];rfl),rfl⟩
 have h1':aW i 1 7=false:=by simpa using h1
 go_wp2_with (go_at_call 26;refine (cH _ _ _ _).mono ?_;rintro e w' ⟨rfl,rfl⟩);go_ret;exact ⟨kt (by rw[HR.out,h1',dU]),rfl⟩
theorem Bj (w:World) (s:ByteArray) (k:Nat):aj w (w.iter s k):=(aK _ w).alloc (aq _) _
set_option maxRecDepth 4000 in
theorem XA (s:ByteArray) (w:World) (hs:s.size<=281474976710656):Calls prog 251 #[.string s] w (aT (.bool (gQ s)) w):=by
 by_cases z1:(s.size:Int)<1
 ·have HR:Hid (gQ s=false):=by rw[gQ,show aW s.size 1 14=false from bq (by omega),dH,dU];rfl
  go_enter func251,ntmps251;go_wp2;go_ret;exact ⟨kt HR.out.symm,aK _ _⟩
 by_cases z2:14<(s.size:Int)
 ·have HR:Hid (gQ s=false):=by rw[gQ,show aW s.size 1 14=false from bq (by omega),dH,dU];rfl
  go_enter func251,ntmps251;go_wp2;go_ret;exact ⟨kt HR.out.symm,aK _ _⟩
 by_cases h3:(s.toList == [46])=true
 ·have HR:Hid (gQ s=false):=by rw[gQ,Ea,h3,DV,dH,dU,dU];rfl
  go_enter func251,ntmps251;go_wp2;go_ret;exact ⟨kt HR.out.symm,aK _ _⟩
 have h3':(s.toList == [46])=false:=by simpa using h3
 clear h3;by_cases h4:(s.toList == [46,46])=true
 ·have HR:Hid (gQ s=false):=by rw[gQ,Eb,h4,DV,dU,dU,dU];rfl
  go_enter func251,ntmps251;go_wp2;go_ret;exact ⟨kt HR.out.symm,aK _ _⟩
 have h4':(s.toList == [46,46])=false:=by simpa using h4
 clear h4;have HY:Hid (s.data.toList.all iJ=true->gQ s=true):=fun h=>by
  rw[NP h,Ea,Eb,h3',h4',show aW s.size 1 14=true from bF (by omega)]
  rfl
 go_enter func251,ntmps251;go_wp2;go_loopw [] (fun w'=>∃ k:Nat,w'=w.iter s k/\k<=s.size/\(s.data.toList.take k).all iJ=true) (fun w'=>s.size-w'.iterPos w.heap.size);case atStart=>exact ⟨0,rfl,aS _,rfl⟩
 case round=>
 obtain ⟨k,rfl,hk,hall⟩:=hrel;by_cases hlt:k<s.size
 ·have hc:=s[k].toNat_lt;by_cases ha:s[k].toNat<128
  ·have hnx:∀ ty,(Instr.next (aD w.heap.size 0) true ty).run prog (w.iter s k)=_:=fun ty=>run_next_ascii w s k ty hlt ha;by_cases hd:iJ s[k]=true
   ·have HA:Hid ((s.data.toList.take (k+1)).all iJ=true):=NO hlt hall hd;have hcase:=NM hd;clear hall hd;rcases hcase with ⟨c1,c2⟩ | ⟨c1,c2⟩ | c1
    ·have g1:((s[k].toNat:Int) != 46)=true:=by simp;omega
     have g2:¬ (s[k].toNat:Int)<48:=by omega
     have g3:57<(s[k].toNat:Int):=by omega
     have g4:¬ (s[k].toNat:Int)<97:=by omega
     have g5:¬ 122<(s[k].toNat:Int):=by omega
     go_wp2;go_roundw;case rel=>exact ⟨k+1,rfl,by omega,HA.out⟩
     case measure=>simp;omega
    ·have g1:((s[k].toNat:Int) != 46)=true:=by simp;omega
     have g2:¬ (s[k].toNat:Int)<48:=by omega
     have g3:¬ 57<(s[k].toNat:Int):=by omega
     go_wp2;go_roundw;case rel=>exact ⟨k+1,rfl,by omega,HA.out⟩
     case measure=>simp;omega
    have g1:((s[k].toNat:Int) != 46)=false:=by simp;omega
    clear c1;go_wp2;go_roundw;case rel=>exact ⟨k+1,rfl,by omega,HA.out⟩
    case measure=>simp;omega
   have hd':iJ s[k]=false:=by simpa using hd
   obtain ⟨n1,n2,n3⟩:=NL hd';have HR:Hid (gQ s=false):=Ia hlt hd';have g1:((s[k].toNat:Int) != 46)=true:=by simp;omega
   clear hall hd hd' n3;by_cases g2:(s[k].toNat:Int)<48
   ·have g3:(s[k].toNat:Int)<97:=by omega
    go_wp2;go_ret;exact ⟨kt HR.out.symm,Bj _ _ _⟩
   have g3:57<(s[k].toNat:Int):=by omega
   by_cases g4:(s[k].toNat:Int)<97
   ·go_wp2;go_ret;exact ⟨kt HR.out.symm,Bj _ _ _⟩
   have g5:122<(s[k].toNat:Int):=by omega
   go_wp2;go_ret;exact ⟨kt HR.out.symm,Bj _ _ _⟩
  have hnx:∀ ty,(Instr.next (aD w.heap.size 0) true ty).run prog (w.iter s k)=_:=fun ty=>run_next_any w s k ty hlt;have hh:=(decode_high s k hlt (by omega)).1;have g1:(((Utf8.decode s k).1:Int) != 46)=true:=by simp;omega
  have g2:¬ ((Utf8.decode s k).1:Int)<48:=by omega
  have g3:57<((Utf8.decode s k).1:Int):=by omega
  have g4:¬ ((Utf8.decode s k).1:Int)<97:=by omega
  have g5:122<((Utf8.decode s k).1:Int):=by omega
  have HR:Hid (gQ s=false):=Ia hlt (by
   have:∀ c:UInt8,¬ c.toNat<128->iJ c=false:=fun c h=>by simp only[iJ,Bool.or_eq_false_iff,qy];omega
   exact this _ ha)
  clear hall;go_wp2;go_ret;exact ⟨kt HR.out.symm,Bj _ _ _⟩
 obtain rfl:k=s.size:=by omega
 have hnx:∀ ty,(Instr.next (aD w.heap.size 0) true ty).run prog (w.iter s s.size)=_:=fun ty=>run_next_end w s s.size ty hlt;rw[NN] at hall;have HR:Hid (gQ s=true):=HY.out hall;clear hall;go_wp2;go_ret;exact ⟨kt HR.out.symm,Bj _ _ _⟩
theorem XB (i:Int) (s:ByteArray) (w:World) (hs:s.size<=281474976710656):Calls prog 234 #[.agg #[ad i,.string s]] w (aT (.bool (eR i s)) w):=by
 have hb0:aj w (w.alloc (.cells #[ad i,.string s] 147)):=(aK _ _).alloc (aq _) _;by_cases h1:1<=i
 ·by_cases h2:i<8
  ·have HR:Hid (eR i s=gQ s):=by rw[eR,show aW i 1 7=true from bF (by omega),DU];rfl
   go_enter func234,ntmps234;go_wp2_with (go_at_call 251;refine (XA _ _ hs).mono ?_;rintro e w' ⟨rfl,hb⟩);go_ret;exact ⟨kt HR.out.symm,hb0.trans (hb.mono hb0.size)⟩
  have HR:Hid (eR i s=false):=by rw[eR,show aW i 1 7=false from bq (by omega),dU];rfl
  have h2':decide (i<8)=false:=by simpa using h2
  go_enter func234,ntmps234;go_wp2;go_ret;exact ⟨kt HR.out.symm,hb0⟩
 have HR:Hid (eR i s=false):=by rw[eR,show aW i 1 7=false from bq (by omega),dU];rfl
 have h1':decide (1<=i)=false:=by simpa using h1
 go_enter func234,ntmps234;go_wp2;go_ret;exact ⟨kt HR.out.symm,hb0⟩
def ix (n:Int):ByteArray:=if aW n 0 65535 then ⟨#[UInt8.ofNat (n % 256).toNat,UInt8.ofNat (n / 256).toNat]⟩ else ⟨#[]⟩
theorem NR (n:Int) (h0:0<=n) (h1:n<256):((UInt8.ofNat n.toNat).toNat:Int)=n:=by
 have:n.toNat<256:=by omega
 simp[Hr this];omega
theorem Ed (x y:Int) (hx:0<=x/\x<256) (hy:0<=y/\y<256) (w:World):(convert 22 9 (.slice (some ⟨w.heap.size,0,none⟩) 2 2)).run prog (w.alloc (.cells #[.int .u8 x,.int .u8 y] 5))=.ok (.string ⟨#[UInt8.ofNat x.toNat,UInt8.ofNat y.toNat]⟩) (w.alloc (.cells #[.int .u8 x,.int .u8 y] 5)):=
 qE _ 22 9 5 _ 0 2 [UInt8.ofNat x.toNat,UInt8.ofNat y.toNat] underlying22 underlying5 underlying9
  (H9 _ _ _ _ _ fun j hj=>by
   match j,hj with
   | 0,_=>simp only[eQ,NR x hx.1 hx.2];rfl
   | 1,_=>simp only[fP,eQ,NR y hy.1 hy.2];rfl) 2 rfl
theorem NS (n:Int) (w:World):Calls prog 163 #[ad n] w (aT (.string (ix n)) w):=by
 by_cases h:aW n 0 65535=true
 ·have e:ix n=⟨#[UInt8.ofNat (n % 256).toNat,UInt8.ofNat (n / 256).toNat]⟩:=by rw[ix,h];rfl
  rw[e];obtain ⟨h1,h2⟩:=pL h;have hc:=Ed (n % 256) (n / 256) (by omega) (by omega);go_enter func163,ntmps163;go_wp2_with (go_at_call 26;refine (cH _ _ _ _).mono ?_;rintro e w' ⟨rfl,rfl⟩);go_ret;exact ⟨rfl,by go_grown⟩
 have h':aW n 0 65535=false:=by simpa using h
 have e:ix n=⟨#[]⟩:=by rw[ix,h'];rfl
 rw[e];go_enter func163,ntmps163;go_wp2_with (go_at_call 26;refine (cH _ _ _ _).mono ?_;rintro e w' ⟨rfl,rfl⟩);go_ret;exact ⟨rfl,aK _ _⟩
theorem XC (n:Int) (w:World):Calls prog 250 #[ad n] w (aT (.string (ix n)) w):=by
 by_cases h1:n<0
 ·have e:ix n=⟨#[]⟩:=by rw[ix,show aW n 0 65535=false from bq (by omega)];rfl
  rw[e];go_enter func250,ntmps250;go_wp2;go_ret;exact ⟨rfl,aK _ _⟩
 by_cases h2:65535<n
 ·have e:ix n=⟨#[]⟩:=by rw[ix,show aW n 0 65535=false from bq (by omega)];rfl
  rw[e];go_enter func250,ntmps250;go_wp2;go_ret;exact ⟨rfl,aK _ _⟩
 have e:ix n=⟨#[UInt8.ofNat (n % 256).toNat,UInt8.ofNat (n / 256).toNat]⟩:=by rw[ix,show aW n 0 65535=true from bF (by omega)];rfl
 rw[e];have hc:=Ed (n % 256) (n / 256) (by omega) (by omega);go_enter func250,ntmps250;go_wp2;go_ret;exact ⟨rfl,by go_grown⟩
section
theorem Ee {a b:ByteArray} (h:a=b):Ending.returned (.string a)=.returned (.string b):=by rw[h]
structure jk (B:Nat) (w:World) (i:Int) (s:ByteArray) (W:World):Prop where
 c0:W.cell? ⟨B,0,none⟩=some (.int .i64 i)
 c1:W.cell? ⟨B,1,none⟩=some (.string s)
 lt:B<W.heap.size
 ah:Below B w W
variable {B : Nat} {w W W' : World} {i : Int} {s : ByteArray}
theorem jk.below (h:jk B w i s W) (hb:aj W W'):jk B w i s W':=⟨(hb.cell (p:=⟨B,0,none⟩) h.lt).trans h.c0,(hb.cell (p:=⟨B,1,none⟩) h.lt).trans h.c1,cS h.lt hb.size,h.ah.trans (hb.mono (iH h.lt))⟩
theorem jk.alloc (h:jk B w i s W) (o:Obj):jk B w i s (W.alloc o):=h.below ((aK _ _).alloc (aq _) o)
theorem jk.drew (h:jk B w i s W):jk B w i s W.drew:=⟨h.c0,h.c1,h.lt,h.ah.drew⟩
theorem Ef (i:Int) (s:ByteArray) (w:World) (T:TypeId):jk w.heap.size w i s (w.alloc (.cells #[ad i,.string s] T)):=by refine ⟨?_,?_,?_,?_⟩;all_goals first | exact (aK _ _).alloc (aq _) _ | (simp[go_sem];done) | (simp;done)
theorem NT (hs:s.size<=281474976710656) (h:jk B w i s W):Calls prog 204 #[.agg #[ad i,.string s]] W fun e w'=>e=.returned (.bool (eR i s))/\jk B w i s w':=(Xz i s W hs).mono fun _ _ ⟨he,hb⟩=>⟨he,hb ▸ h.alloc _⟩
theorem Ib (hs:s.size<=281474976710656) (h:jk B w i s W):Calls prog 234 #[.agg #[ad i,.string s]] W fun e w'=>e=.returned (.bool (eR i s))/\jk B w i s w':=(XB i s W hs).mono fun _ _ ⟨he,hb⟩=>⟨he,h.below hb⟩
theorem XD (n:Int) (h:jk B w i s W):Calls prog 98 #[ad n] W fun e w'=>e=.returned (.string (bB n))/\jk B w i s w':=(Bf n W).mono fun _ _ ⟨he,hb⟩=>⟨he,h.below hb⟩
theorem XE (a:ByteArray) (k:Int) (t:ByteArray) (hs:a.size<=281474976710656) (ht:t.size<=281474976710656) (h:jk B w i s W):Calls prog 97 #[.string a,ad k,.string t] W fun e w'=>e=.returned (.string (bJ a k t))/\jk B w i s w':=(yQ a k t W hs ht).mono fun _ _ ⟨he,hb⟩=>⟨he,h.below hb⟩
theorem NU (hi:1<=i/\i<=7) (hs:s.size<=14):(⟨#[UInt8.ofNat i.toNat,UInt8.ofNat ((s.size:Int)).toNat]⟩:ByteArray)++s=Bi i s:=by rw[Bi,WN]
set_option maxRecDepth 4000 in
theorem Bl (i:Int) (s:ByteArray) (w:World) (hs:s.size<=281474976710656):Calls prog 164 #[.agg #[ad i,.string s]] w (aT (.string (gG i s)) w):=by
 have h0:=Ef i s w 147;by_cases hok:eR i s=true
 ·obtain ⟨hn,hi⟩:=Bh hok;have hz:=Ec hn;have hc:=Ed i (s.size:Int) (by omega) (by omega);obtain ⟨X,hX⟩:∃ X:ByteArray,X=⟨#[UInt8.ofNat i.toNat,UInt8.ofNat ((s.size:Int)).toNat]⟩:=⟨_,rfl⟩;have yG:X.size=2:=by rw[hX];rfl
  have HP:Hid (gG i s=(X++s)++bB (16-((X.size:Int)+(s.size:Int)))):=by rw[gG,aF hok,yG,hX,NU hi hz.2,bB,aF (by omega),show (16-(((2:Nat):Int)+(s.size:Int))).toNat=14-s.size by omega];rfl
  have z1:X.size+s.size<=9223372036854775807:=by omega
  have z2:(X.size:Int)+(s.size:Int)<=16:=by omega
  have z3:X.size+s.size+(bB (16-((X.size:Int)+(s.size:Int)))).size<=9223372036854775807:=by rw[bB,aF (by omega),ni];omega
  rw[<- hX] at hc;clear hX yG;go_enter func164,ntmps164;go_wp2_with (first
   | (go_at_call 204;refine (NT hs h0).mono ?_;rintro e w1 ⟨rfl,h1⟩;have c0:=h1.c0;have c1:=h1.c1;have h1a:=h1.alloc (.cells #[.int .u8 i,.int .u8 (s.size:Int)] 5);have d0:=h1a.c0;have d1:=h1a.c1)
   | (go_at_call 75;refine (nj _ _).mono ?_;rintro e w2 ⟨rfl,rfl⟩))
  go_ret;exact ⟨Ee HP.out.symm,h1a.ah⟩
 have hok':eR i s=false:=by simpa using hok
 have HP:Hid (gG i s=⟨#[]⟩):=by rw[gG,aG hok];rfl
 go_enter func164,ntmps164;go_wp2_with (go_at_call 204;refine (NT hs h0).mono ?_;rintro e w1 ⟨rfl,h1⟩);go_ret;exact ⟨Ee HP.out.symm,h1.ah⟩
set_option maxRecDepth 4000 in
theorem NV (i:Int) (s:ByteArray) (w:World) (hs:s.size<=281474976710656):Calls prog 233 #[.agg #[ad i,.string s]] w (aT (.string (gG i s)) w):=by
 have h0:=Ef i s w 147;by_cases hok:eR i s=true
 ·obtain ⟨hn,hi⟩:=Bh hok;have hz:=Ec hn;have hc:=Ed i (s.size:Int) (by omega) (by omega);obtain ⟨X,hX⟩:∃ X:ByteArray,X=⟨#[UInt8.ofNat i.toNat,UInt8.ofNat ((s.size:Int)).toNat]⟩:=⟨_,rfl⟩;have yG:X.size=2:=by rw[hX];rfl
  have z2:(X++s).size=2+s.size:=by rw[fk,yG]
  have HP:Hid (gG i s=bJ (bB 16) 0 (X++s)):=by
   rw[gG,aF hok,bB,aF (by decide),show ((16:Int)).toNat=16 from rfl,NQ _ 16 (by omega),z2,hX,NU hi hz.2,show 16-(2+s.size)=14-s.size by omega]
   rfl
  have z1:X.size+s.size<=9223372036854775807:=by omega
  have z4:(X++s).size<=281474976710656:=by omega
  have z5:(bB 16).size<=281474976710656:=by decide
  rw[<- hX] at hc;clear hX yG z2;go_enter func233,ntmps233;go_wp2_with (go_at_call 234;refine (Ib hs h0).mono ?_;rintro e w1 ⟨rfl,h1⟩;have c0:=h1.c0;have c1:=h1.c1;have h1a:=h1.alloc (.cells #[.int .u8 i,.int .u8 (s.size:Int)] 5);have d0:=h1a.c0;have d1:=h1a.c1;have h1d:=h1a.drew);go_region_with (first
   | (go_at_call 98;refine (XD _ (by assumption)).mono ?_;rintro e w4 ⟨rfl,h4⟩;have x0:=h4.c0;have x1:=h4.c1)
   | (go_at_call 97;refine (XE _ _ _ z5 z4 (by assumption)).mono ?_;rintro e w5 ⟨rfl,h5⟩))
  all_goals
   go_wp2;go_ret;exact ⟨Ee HP.out.symm,h5.ah⟩
 have hok':eR i s=false:=by simpa using hok
 have HP:Hid (gG i s=⟨#[]⟩):=by rw[gG,aG hok];rfl
 go_enter func233,ntmps233;go_wp2_with (go_at_call 234;refine (Ib hs h0).mono ?_;rintro e w1 ⟨rfl,h1⟩);go_ret;exact ⟨Ee HP.out.symm,h1.ah⟩
end
section
structure av (B:Nat) (vs:List Value) (W:World):Prop where
 cell:∀ j (h:j<vs.length),W.cell? ⟨B,j,none⟩=some vs[j]
 free:∀ j,j<vs.length->W.frozen? ⟨B,j,none⟩=false
 lt:B<W.heap.size
variable {B : Nat} {vs : List Value} {w W W' : World}
theorem av.below (h:av B vs W) (hb:aj W W'):av B vs W':=⟨fun j hj=>(hb.cell (p:=⟨B,j,none⟩) h.lt).trans (h.cell j hj),fun j hj=>(hb.frozen (p:=⟨B,j,none⟩) h.lt).trans (h.free j hj),cS h.lt hb.size⟩
theorem av.alloc (h:av B vs W) (o:Obj):av B vs (W.alloc o):=h.below ((aK _ _).alloc (aq _) o)
theorem av.drew (h:av B vs W):av B vs W.drew:=⟨h.cell,h.free,h.lt⟩
theorem av.drewN (h:av B vs W) (n:Nat):av B vs (W.drewN n):=⟨h.cell,h.free,h.lt⟩
theorem bu (vs:List Value) (w:World) (T:TypeId):av w.heap.size vs (w.alloc (.cells vs.toArray T)):=by
 refine ⟨fun j hj=>?_,fun j hj=>?_,?_⟩
 ·rw[rV];simp[hj]
 ·have h:=AP w vs.toArray T 0 0 j;rw[h];simp
 simp
theorem gH (vs:List Value) (w:World) (T:TypeId) (hB:w.heap.size=B):av B vs (w.alloc (.cells vs.toArray T)):=hB ▸ bu vs w T
theorem av.set (h:av B vs W) (j:Nat) (v:Value):av B (vs.set j v) (W.setCell ⟨B,j,none⟩ v):=by
 refine ⟨fun k hk=>?_,fun k hk=>?_,?_⟩
 ·have hk':k<vs.length:=by simpa using hk
  by_cases e:j=k
  ·subst e;rw[rW _ _ _ (h.cell j hk')];simp
  rw[fJ _ _ _ _ (fun x=>e (yM x).2.1),h.cell k hk',List.getElem_set_ne e]
 ·rw[iI];exact h.free k (by simpa using hk)
 have:=h.lt;simpa [World.setCell] using this
theorem av.aR (h:av B vs W) {B':Nat} (hne:B'≠B) (j:Nat) (v:Value):av B vs (W.setCell ⟨B',j,none⟩ v):=by
 refine ⟨fun k hk=>?_,fun k hk=>?_,?_⟩
 ·rw[fJ _ _ _ _ (fun x=>hne (yM x).1)];exact h.cell k hk
 ·rw[iI];exact h.free k hk
 have:=h.lt;simpa [World.setCell] using this
theorem av.c0 {a:Value} {l:List Value} (h:av B (a :: l) W):af W B 0 a:=h.cell 0 (by simp)
theorem av.c1 {a b:Value} {l:List Value} (h:av B (a :: b :: l) W):af W B 1 b:=h.cell 1 (by simp)
theorem av.c2 {a b c:Value} {l:List Value} (h:av B (a :: b :: c :: l) W):af W B 2 c:=h.cell 2 (by simp)
theorem av.c3 {a b c d:Value} {l:List Value} (h:av B (a :: b :: c :: d :: l) W):af W B 3 d:=h.cell 3 (by simp)
theorem av.f0 {a:Value} {l:List Value} (h:av B (a :: l) W):W.frozen? ⟨B,0,none⟩=false:=h.free 0 (by simp)
theorem av.f1 {a b:Value} {l:List Value} (h:av B (a :: b :: l) W):W.frozen? ⟨B,1,none⟩=false:=h.free 1 (by simp)
theorem av.f2 {a b c:Value} {l:List Value} (h:av B (a :: b :: c :: l) W):W.frozen? ⟨B,2,none⟩=false:=h.free 2 (by simp)
theorem av.f3 {a b c d:Value} {l:List Value} (h:av B (a :: b :: c :: d :: l) W):W.frozen? ⟨B,3,none⟩=false:=h.free 3 (by simp)
theorem av.rO {a b:Value} (h:av B [a,b] W) (x y:Value):av B [x,y] ((W.setCell ⟨B,0,none⟩ x).setCell ⟨B,1,none⟩ y):=(h.set 0 x).set 1 y
theorem av.eU {a b c d:Value} (h:av B [a,b,c,d] W) (x y z u:Value):av B [x,y,z,u] ((((W.setCell ⟨B,0,none⟩ x).setCell ⟨B,1,none⟩ y).setCell ⟨B,2,none⟩ z).setCell ⟨B,3,none⟩ u):=(((h.set 0 x).set 1 y).set 2 z).set 3 u
theorem cL {B:Nat} {a w:World} (h:Below B a w) (n:Nat):Below B a (w.drewN n):=⟨h.os,h.tape,h.output,h.size,h.block⟩
theorem aB (w:World) (o:Obj):aj w (w.alloc o):=(aK _ _).alloc (aq _) o
end
end Go.Proofs.YtidmmopnkjbjoaaGreatDoor
namespace Go.Proofs
open Go.Shelf
def Tryz.lays156_ren:Go.Shelf.Ren:=⟨fun | 156=>106 | 165=>157 | 166=>158 | 169=>159 | 240=>201 | 241=>202 | 276=>237 | 277=>238 | n=>n,fun | 31=>120 | 9=>9 | 3=>3 | 4=>4 | 0=>0 | 20=>20 | 72=>205 | 76=>207 | 70=>203 | 37=>22 | 75=>44 | 127=>209 | 164=>253 | 5=>5 | 80=>171 | n=>n,fun | n=>n⟩
theorem Tryz.lays156:Go.Proofs.Lays.n156 Tryz.prog Tryz.lays156_ren:={
 mixed:=by kernel_rfl
 f156:=Tryz.func106.trans (congrArg some (by kernel_rfl))
 f165:=Tryz.func157.trans (congrArg some (by kernel_rfl))
 f166:=Tryz.func158.trans (congrArg some (by kernel_rfl))
 f169:=Tryz.func159.trans (congrArg some (by kernel_rfl))
 f240:=Tryz.func201.trans (congrArg some (by kernel_rfl))
 f241:=Tryz.func202.trans (congrArg some (by kernel_rfl))
 f276:=Tryz.func237.trans (congrArg some (by kernel_rfl))
 f277:=Tryz.func238.trans (congrArg some (by kernel_rfl))
 t0:=Tryz.underlying0
 a0:=Tryz.isAgg0
 z0:=Tryz.sizeOf0
 v0:=Tryz.zeroValue0
 t3:=Tryz.underlying3
 a3:=Tryz.isAgg3
 z3:=Tryz.sizeOf3
 v3:=Tryz.zeroValue3
 t4:=Tryz.underlying4
 a4:=Tryz.isAgg4
 z4:=Tryz.sizeOf4
 v4:=Tryz.zeroValue4
 t9:=Tryz.underlying9
 a9:=Tryz.isAgg9
 z9:=Tryz.sizeOf9
 v9:=Tryz.zeroValue9
 t20:=Tryz.underlying20
 a20:=Tryz.isAgg20
 z20:=Tryz.sizeOf20
 v20:=Tryz.zeroValue20
 t31:=Tryz.underlying120
 a31:=Tryz.isAgg120
 z31:=Tryz.sizeOf120
 v31:=Tryz.zeroValue120
 t37:=Tryz.underlying22
 a37:=Tryz.isAgg22
 z37:=Tryz.sizeOf22
 v37:=Tryz.zeroValue22
 t70:=Tryz.underlying203
 a70:=Tryz.isAgg203
 z70:=Tryz.sizeOf203
 v70:=Tryz.zeroValue203
 t72:=Tryz.underlying205
 a72:=Tryz.isAgg205
 z72:=Tryz.sizeOf205
 v72:=Tryz.zeroValue205
 t75:=Tryz.underlying44
 a75:=Tryz.isAgg44
 z75:=Tryz.sizeOf44
 v75:=Tryz.zeroValue44
 t76:=Tryz.underlying207
 a76:=Tryz.isAgg207
 z76:=Tryz.sizeOf207
 v76:=Tryz.zeroValue207
 t127:=Tryz.underlying209
 a127:=Tryz.isAgg209
 z127:=Tryz.sizeOf209
 v127:=Tryz.zeroValue209
 t164:=Tryz.underlying253
 a164:=Tryz.isAgg253
 z164:=Tryz.sizeOf253
 v164:=Tryz.zeroValue253 }
theorem Tryz.Builder_Extra_156:Builder.Extra Tryz.prog Tryz.lays156_ren:={
 sizeBuilder:=by kernel_rfl
 liesBuilder:=by kernel_rfl
 t5:=Tryz.underlying5
 a5:=Tryz.isAgg5
 z5:=Tryz.sizeOf5
 v5:=Tryz.zeroValue5
 infoByte:=by kernel_rfl
 cellsByte:=by kernel_rfl
 sizeByte:=by kernel_rfl
 neB5:=by decide }
open Go.RowKit in
theorem Tryz.strings_Join (bk o c:Nat) (xs:List ByteArray) (sep:ByteArray) (w:World) (hcells:∀ (j:Nat) x,xs[j]? = some x->w.cell? ⟨bk,o+j,none⟩=some (.string x)) (hbk:bk<w.heap.size) (hN:xs.length<=140737488355328) (hcap:xs.length<=c) (hlen:(Lib.join (xs.map (·.data.toList)) sep.data.toList).length<=140737488355328):Calls Tryz.prog 106 #[.slice (some ⟨bk,o,none⟩) xs.length c,.string sep] w fun e w'=>e=.returned (.string ⟨(Lib.join (xs.map (·.data.toList)) sep.data.toList).toArray⟩)/\Below w.heap.size w w':=Any.strings_Join Tryz.lays156 Tryz.Builder_Extra_156 bk o c xs sep w hcells hbk hN hcap hlen
def Tryz.lays106_ren:Go.Shelf.Ren:=⟨fun | 106=>48 | 213=>105 | 265=>156 | n=>n,fun | 9=>9 | 3=>3 | n=>n,fun | n=>n⟩
theorem Tryz.lays106:Go.Proofs.Lays.n106 Tryz.prog Tryz.lays106_ren:={
 mixed:=by kernel_rfl
 f106:=Tryz.func48.trans (congrArg some (by kernel_rfl))
 f213:=Tryz.func105.trans (congrArg some (by kernel_rfl))
 f265:=Tryz.func156.trans (congrArg some (by kernel_rfl))
 t3:=Tryz.underlying3
 a3:=Tryz.isAgg3
 z3:=Tryz.sizeOf3
 v3:=Tryz.zeroValue3
 t9:=Tryz.underlying9
 a9:=Tryz.isAgg9
 z9:=Tryz.sizeOf9
 v9:=Tryz.zeroValue9 }
open Go.RowKit in
theorem Tryz.strings_Compare (a b:ByteArray) (w:World):Calls Tryz.prog 48 #[.string a,.string b] w fun e w'=>e=.returned (.int .i64 (Lib.compareBytes a.data.toList b.data.toList))/\w'=w:=Any.strings_Compare Tryz.lays106 a b w
def Tryz.laysM171_ren:Go.Shelf.Ren:=⟨fun | 171=>160 | 243=>203 | 246=>239 | 283=>252 | 284=>253 | 285=>254 | 286=>255 | 129=>155 | 317=>256 | 318=>257 | 319=>258 | 320=>259 | 337=>260 | 338=>261 | n=>n,fun | 3=>3 | 9=>9 | 2=>2 | 4=>4 | 171=>294 | 0=>0 | 53=>202 | 37=>22 | 5=>5 | 173=>296 | 212=>299 | 51=>95 | 20=>20 | 213=>300 | 46=>142 | 232=>301 | 233=>302 | n=>n,fun | 17=>7 | 18=>8 | 19=>9 | n=>n⟩
theorem Tryz.laysM171:Go.Proofs.LaysM.n171 Tryz.prog Tryz.laysM171_ren:={
 mixed:=by kernel_rfl
 f129:=Tryz.func155.trans (congrArg some (by kernel_rfl))
 f171:=Tryz.func160.trans (congrArg some (by kernel_rfl))
 f243:=Tryz.func203.trans (congrArg some (by kernel_rfl))
 f246:=Tryz.func239.trans (congrArg some (by kernel_rfl))
 f283:=Tryz.func252.trans (congrArg some (by kernel_rfl))
 f284:=Tryz.func253.trans (congrArg some (by kernel_rfl))
 f285:=Tryz.func254.trans (congrArg some (by kernel_rfl))
 f286:=Tryz.func255.trans (congrArg some (by kernel_rfl))
 f317:=Tryz.func256.trans (congrArg some (by kernel_rfl))
 f318:=Tryz.func257.trans (congrArg some (by kernel_rfl))
 f319:=Tryz.func258.trans (congrArg some (by kernel_rfl))
 f320:=Tryz.func259.trans (congrArg some (by kernel_rfl))
 f337:=Tryz.func260.trans (congrArg some (by kernel_rfl))
 f338:=Tryz.func261.trans (congrArg some (by kernel_rfl))
 t0:=Tryz.underlying0
 a0:=Tryz.isAgg0
 z0:=Tryz.sizeOf0
 v0:=Tryz.zeroValue0
 t2:=Tryz.underlying2
 a2:=Tryz.isAgg2
 z2:=Tryz.sizeOf2
 v2:=Tryz.zeroValue2
 t3:=Tryz.underlying3
 a3:=Tryz.isAgg3
 z3:=Tryz.sizeOf3
 v3:=Tryz.zeroValue3
 t4:=Tryz.underlying4
 a4:=Tryz.isAgg4
 z4:=Tryz.sizeOf4
 v4:=Tryz.zeroValue4
 t5:=Tryz.underlying5
 a5:=Tryz.isAgg5
 z5:=Tryz.sizeOf5
 v5:=Tryz.zeroValue5
 t9:=Tryz.underlying9
 a9:=Tryz.isAgg9
 z9:=Tryz.sizeOf9
 v9:=Tryz.zeroValue9
 t20:=Tryz.underlying20
 a20:=Tryz.isAgg20
 z20:=Tryz.sizeOf20
 v20:=Tryz.zeroValue20
 t37:=Tryz.underlying22
 a37:=Tryz.isAgg22
 z37:=Tryz.sizeOf22
 v37:=Tryz.zeroValue22
 t46:=Tryz.underlying142
 a46:=Tryz.isAgg142
 z46:=Tryz.sizeOf142
 v46:=Tryz.zeroValue142
 t51:=Tryz.underlying95
 a51:=Tryz.isAgg95
 z51:=Tryz.sizeOf95
 v51:=Tryz.zeroValue95
 t53:=Tryz.underlying202
 a53:=Tryz.isAgg202
 z53:=Tryz.sizeOf202
 v53:=Tryz.zeroValue202
 t171:=Tryz.underlying294
 a171:=Tryz.isAgg294
 z171:=Tryz.sizeOf294
 v171:=Tryz.zeroValue294
 t173:=Tryz.underlying296
 a173:=Tryz.isAgg296
 z173:=Tryz.sizeOf296
 v173:=Tryz.zeroValue296
 t212:=Tryz.underlying299
 a212:=Tryz.isAgg299
 z212:=Tryz.sizeOf299
 v212:=Tryz.zeroValue299
 t213:=Tryz.underlying300
 a213:=Tryz.isAgg300
 z213:=Tryz.sizeOf300
 t232:=Tryz.underlying301
 a232:=Tryz.isAgg301
 z232:=Tryz.sizeOf301
 v232:=Tryz.zeroValue301
 t233:=Tryz.underlying302
 a233:=Tryz.isAgg302
 z233:=Tryz.sizeOf302
 v233:=Tryz.zeroValue302
 g17:=by kernel_rfl
 g18:=by kernel_rfl
 g19:=by kernel_rfl
 i0:=by kernel_rfl
 i2:=by kernel_rfl
 i3:=by kernel_rfl
 i4:=by kernel_rfl
 i5:=by kernel_rfl
 i9:=by kernel_rfl
 i20:=by kernel_rfl
 i37:=by kernel_rfl
 i46:=by kernel_rfl
 i51:=by kernel_rfl
 i53:=by kernel_rfl
 i171:=by kernel_rfl
 i173:=by kernel_rfl
 i212:=by kernel_rfl
 i232:=by kernel_rfl
 i233:=by kernel_rfl
 m17:=by kernel_rfl
 m18:=by kernel_rfl
 m19:=by kernel_rfl }
open Go.RowKit Go.Sort Go.Lib in
theorem Tryz.strconv_Itoa (n:Int) (h0 : -9223372036854775808<=n) (h1:n<=9223372036854775807) (w:World) (htab:Lib.TabIs Tryz.prog w "internal/strconv.uint64pow10" .u64 Lib.pow10Tab):Calls Tryz.prog 160 #[.int .i64 n] w fun e w'=>e=.returned (.string ⟨(Lib.itoa n).toArray⟩)/\∃ k os,w'=grow (w.drewN k) os:=Any.strconv_Itoa Tryz.laysM171 n h0 h1 w htab
def Tryz.laysM316_ren:Go.Shelf.Ren:=⟨fun | 316=>109 | n=>n,fun | 9=>9 | 3=>3 | 4=>4 | 37=>22 | 0=>0 | 127=>209 | 5=>5 | n=>n,fun | n=>n⟩
theorem Tryz.laysM316:Go.Proofs.LaysM.n316 Tryz.prog Tryz.laysM316_ren:={
 mixed:=by kernel_rfl
 f316:=Tryz.func109.trans (congrArg some (by kernel_rfl))
 t0:=Tryz.underlying0
 a0:=Tryz.isAgg0
 z0:=Tryz.sizeOf0
 v0:=Tryz.zeroValue0
 t3:=Tryz.underlying3
 a3:=Tryz.isAgg3
 z3:=Tryz.sizeOf3
 v3:=Tryz.zeroValue3
 t4:=Tryz.underlying4
 a4:=Tryz.isAgg4
 z4:=Tryz.sizeOf4
 v4:=Tryz.zeroValue4
 t9:=Tryz.underlying9
 a9:=Tryz.isAgg9
 z9:=Tryz.sizeOf9
 v9:=Tryz.zeroValue9
 t37:=Tryz.underlying22
 a37:=Tryz.isAgg22
 z37:=Tryz.sizeOf22
 v37:=Tryz.zeroValue22
 t127:=Tryz.underlying209
 a127:=Tryz.isAgg209
 z127:=Tryz.sizeOf209
 v127:=Tryz.zeroValue209
 t5:=Tryz.underlying5
 a5:=Tryz.isAgg5
 z5:=Tryz.sizeOf5
 v5:=Tryz.zeroValue5
 i0:=by kernel_rfl
 i3:=by kernel_rfl
 i4:=by kernel_rfl
 i5:=by kernel_rfl
 i9:=by kernel_rfl
 i37:=by kernel_rfl
 i127:=by kernel_rfl }
open Go.RowKit in
theorem Tryz.stringslite_Clone (s:ByteArray) (w:World) (hlim:s.size<=281474976710656):Calls Tryz.prog 109 #[.string s] w fun e w'=>e=.returned (.string s)/\Below w.heap.size w w':=Any.stringslite_Clone Tryz.laysM316 s w hlim
def Tryz.lays107_ren:Go.Shelf.Ren:=⟨fun | 107=>131 | 108=>174 | n=>n,fun | 28=>29 | 3=>3 | 4=>4 | 0=>0 | n=>n,fun | n=>n⟩
theorem Tryz.lays107:Go.Proofs.Lays.n107 Tryz.prog Tryz.lays107_ren:={
 mixed:=by kernel_rfl
 f107:=Tryz.func131.trans (congrArg some (by kernel_rfl))
 f108:=Tryz.func174.trans (congrArg some (by kernel_rfl))
 t0:=Tryz.underlying0
 a0:=Tryz.isAgg0
 z0:=Tryz.sizeOf0
 v0:=Tryz.zeroValue0
 t3:=Tryz.underlying3
 a3:=Tryz.isAgg3
 z3:=Tryz.sizeOf3
 v3:=Tryz.zeroValue3
 t4:=Tryz.underlying4
 a4:=Tryz.isAgg4
 z4:=Tryz.sizeOf4
 v4:=Tryz.zeroValue4
 t28:=Tryz.underlying29
 a28:=Tryz.isAgg29
 z28:=Tryz.sizeOf29
 v28:=Tryz.zeroValue29 }
open Go.Lib in
theorem Tryz.slices_Contains_int (b off n c:Nat) (zs:List Int) (x:Int) (w:World) (hz:n<=zs.length) (hbig:n<=9223372036854775807) (hc:∀ j,j<zs.length->w.cell? ⟨b,off+j,none⟩=some (.int .i64 (zs.getD j 0))):Calls Tryz.prog 131 #[.slice (some ⟨b,off,none⟩) n c,.int .i64 x] w fun e w'=>e=.returned (.bool ((zs.take n).contains x))/\w'=w:=Any.slices_Contains_int Tryz.lays107 b off n c zs x w hz hbig hc
open Go.Lib in
theorem Tryz.slices_Contains_int_empty (a:Option Addr) (c:Nat) (x:Int) (w:World):Calls Tryz.prog 131 #[.slice a 0 c,.int .i64 x] w fun e w'=>e=.returned (.bool false)/\w'=w:=Any.slices_Contains_int_empty Tryz.lays107 a c x w
def Tryz.laysNm215_ren:Go.Shelf.Ren:=⟨fun | 15=>94 | n=>n,fun | 22=>29 | 3=>3 | 4=>4 | n=>n,fun | n=>n⟩
theorem Tryz.laysNm215:Go.Proofs.Lays2.n15 Tryz.prog Tryz.laysNm215_ren:={
 mixed:=by kernel_rfl
 f15:=Tryz.func94.trans (congrArg some (by kernel_rfl))
 t3:=Tryz.underlying3
 a3:=Tryz.isAgg3
 z3:=Tryz.sizeOf3
 v3:=Tryz.zeroValue3
 t4:=Tryz.underlying4
 a4:=Tryz.isAgg4
 z4:=Tryz.sizeOf4
 v4:=Tryz.zeroValue4
 t22:=Tryz.underlying29
 a22:=Tryz.isAgg29
 z22:=Tryz.sizeOf29
 v22:=Tryz.zeroValue29
 i3:=by kernel_rfl }
open Go.RowKit Go.Lib in
theorem Tryz.slices_Clone_int (b off n c:Nat) (zs:List Int) (w:World) (hz:n<=zs.length) (hbig:n*8<=140737488355328) (hc:∀ j,j<zs.length->w.cell? ⟨b,off+j,none⟩=some (.int .i64 (zs.getD j 0))):Calls Tryz.prog 94 #[.slice (some ⟨b,off,none⟩) n c] w fun e w'=>∃ v',e=.returned v'/\w'.ownsRow w.heap.size 3 1 v' n ((zs.take n).map (Value.int .i64))/\v' ≠ .slice none 0 0/\Below w.heap.size w w':=Any.slices_Clone_int Tryz.laysNm215 b off n c zs w hz hbig hc
def Tryz.laysNm220_ren:Go.Shelf.Ren:=⟨fun | 20=>144 | n=>n,fun | 22=>29 | 3=>3 | 4=>4 | 0=>0 | n=>n,fun | n=>n⟩
theorem Tryz.laysNm220:Go.Proofs.Lays2.n20 Tryz.prog Tryz.laysNm220_ren:={
 mixed:=by kernel_rfl
 f20:=Tryz.func144.trans (congrArg some (by kernel_rfl))
 t0:=Tryz.underlying0
 a0:=Tryz.isAgg0
 z0:=Tryz.sizeOf0
 v0:=Tryz.zeroValue0
 t3:=Tryz.underlying3
 a3:=Tryz.isAgg3
 z3:=Tryz.sizeOf3
 v3:=Tryz.zeroValue3
 t4:=Tryz.underlying4
 a4:=Tryz.isAgg4
 z4:=Tryz.sizeOf4
 v4:=Tryz.zeroValue4
 t22:=Tryz.underlying29
 a22:=Tryz.isAgg29
 z22:=Tryz.sizeOf29
 v22:=Tryz.zeroValue29
 i3:=by kernel_rfl }
open Go.RowKit Go.Lib Go.Sort in
theorem Tryz.slices_Compact_int (blk off cap:Nat) (zs:List Int) (w:World) (hH:Holds (Value.int .i64) w blk off zs.toArray) (hsz:zs.length<=9223372036854775807) (hcap:zs.length<=cap):Calls Tryz.prog 144 #[.slice (some ⟨blk,off,none⟩) zs.length cap] w fun e w'=>e=.returned (.slice (some ⟨blk,off,none⟩) (Lib.compact zs).length cap)/\∃ q,w'=putRow (Value.int .i64) (Sort.ahead w q) blk off (Lib.compact zs++List.replicate (zs.length-(Lib.compact zs).length) 0).toArray:=Any.slices_Compact_int Tryz.laysNm220 blk off cap zs w hH hsz hcap
end Go.Proofs
namespace Go.Proofs.YtidmmopnkjbjoaaGreatDoor
open ChangeShapes WideShapes ChangeAt RowKit
open Go.Proofs.Tryz
theorem yS (s:ByteArray) (w:World) (hs:s.size<=281474976710656):Calls prog 50 #[.string s] w (aT (.string s) w):=by go_enter func50,ntmps50;go_wp2_with (go_at_call 109;refine (Tryz.stringslite_Clone _ _ hs).mono ?_;rintro e w' ⟨rfl,hb⟩);go_ret;exact ⟨rfl,hb⟩
theorem nn (s:ByteArray) (i n:Int):(aO s i n).size<=s.size:=by
 unfold aO;split;·simp only[lU];omega
 exact aS _
theorem sn (s:ByteArray) (i n:Int) (w:World) (hs:s.size<=281474976710656):Calls prog 90 #[.string s,ad i,ad n] w (aT (.string (aO s i n)) w):=by
 have hs':s.size<=maxLen:=by unfold maxLen;omega
 have hz:=nn s i n;by_cases h:cZ s.size i n=true
 ·have e:aO s i n=s.extract i.toNat (i+n).toNat:=by rw[aO,h];rfl
  rw[e] at hz ⊢;obtain ⟨h1,h2,h3⟩:=si h;have h5:i<=i+n:=by omega
  have h6:i+n<=(s.size:Int):=by omega
  go_enter func90,ntmps90;go_wp2_with (first | (go_at_call 139;refine (tH _ _ _ _ hs').mono ?_;rintro e w' ⟨rfl,rfl⟩) | (go_at_call 50;refine (yS _ _ (by omega)).mono ?_;rintro e w' ⟨rfl,hb⟩));go_ret;exact ⟨rfl,hb⟩
 have h':cZ s.size i n=false:=by simpa using h
 have e:aO s i n=⟨#[]⟩:=by rw[aO,h'];rfl
 rw[e];go_enter func90,ntmps90;go_wp2_with (go_at_call 139;refine (tH _ _ _ _ hs').mono ?_;rintro e w' ⟨rfl,rfl⟩);go_ret;exact ⟨rfl,aK _ _⟩
set_option maxRecDepth 4000 in
theorem np (s:ByteArray) (i n:Int) (w:World) (hs:s.size<=maxLen) (wi:(Lit.int .i64 i).wf=true) (wn:(Lit.int .i64 n).wf=true):Calls prog 78 #[.string s,ad i,ad n] w (dp (.string (aO s i n)) w):=by
 unfold maxLen at hs;by_cases h1:i<0
 ·have e:aO s i n=⟨#[]⟩:=by rw[aO,show cZ s.size i n=false from bq fun h=>by omega];rfl
  rw[e];go_enter func78,ntmps78;go_wp2;go_ret;exact ⟨rfl,rfl⟩
 by_cases h2:n<0
 ·have e:aO s i n=⟨#[]⟩:=by rw[aO,show cZ s.size i n=false from bq fun h=>by omega];rfl
  rw[e];go_enter func78,ntmps78;go_wp2;go_ret;exact ⟨rfl,rfl⟩
 by_cases h3:(s.size:Int)<n
 ·have e:aO s i n=⟨#[]⟩:=by rw[aO,show cZ s.size i n=false from bq fun h=>by omega];rfl
  rw[e];go_enter func78,ntmps78;go_wp2;go_ret;exact ⟨rfl,rfl⟩
 by_cases h4:(s.size:Int)-n<i
 ·have e:aO s i n=⟨#[]⟩:=by rw[aO,show cZ s.size i n=false from bq fun h=>by omega];rfl
  rw[e];go_enter func78,ntmps78;go_wp2;go_ret;exact ⟨rfl,rfl⟩
 have e:aO s i n=s.extract i.toNat (i+n).toNat:=by rw[aO,show cZ s.size i n=true from bF (by omega)];rfl
 rw[e];have h5:i<=i+n:=by omega
 have h6:i+n<=(s.size:Int):=by omega
 go_enter func78,ntmps78;go_wp2;go_ret;exact ⟨rfl,rfl⟩
def wH (s:ByteArray):Int:=aP s 0
def wI (s:ByteArray):ByteArray:=aO s 2 (aP s 1)
def gJ (s:ByteArray):Bool:=decide (s.size=16) && ((gG (wH s) (wI s)).toList == s.toList)
def jU (s:ByteArray):Int:=if gJ s then wH s else 0
def jl (s:ByteArray):ByteArray:=if gJ s then wI s else ⟨#[]⟩
def nU (s:ByteArray):Value:=.tuple #[.agg #[.int .i64 (jU s),.string (jl s)],.bool (gJ s)]
theorem Ic (n:Int) (h0 : -9223372036854775808<=n) (h1:n<=9223372036854775807):(Lit.int .i64 n).wf=true:=by simp[Lit.wf,IntKind.min,IntKind.max,IntKind.signed,IntKind.bits];omega
theorem Ie (s:ByteArray) (i:Int):0<=aP s i/\aP s i<256:=by
 unfold aP;split
 ·rename_i h;have:=(s[i.toNat]'(by omega)).toNat_lt;omega
 omega
theorem Eg {s:ByteArray} (h:gJ s=false):nU s=.tuple #[.agg #[ad 0,.string ⟨#[]⟩],.bool false]:=by simp[nU,jU,jl,h]
theorem NW {s:ByteArray} (h:gJ s=true):nU s=.tuple #[.agg #[ad (wH s),.string (wI s)],.bool true]:=by simp[nU,jU,jl,h]
structure Bm (w:World) (B:Nat) (a:Int) (b:ByteArray) (W:World):Prop where
 n:av w.heap.size [.int .i64 0,.string ⟨#[]⟩] W
 m:av B [.int .i64 a,.string b] W
 ne:w.heap.size<B
 ah:aj w W
theorem Bm.below {w W W':World} {B:Nat} {a:Int} {b:ByteArray} (h:Bm w B a b W) (hb:aj W W'):Bm w B a b W':=⟨h.n.below hb,h.m.below hb,h.ne,h.ah.trans (hb.mono (iH h.n.lt))⟩
theorem Ig (w w1:World) (a:Int) (b:ByteArray) (h:aj (w.alloc (.cells #[ad 0,.string ⟨#[]⟩] 147)) w1):Bm w w1.heap.size a b (w1.alloc (.cells #[ad a,.string b] 147)):=by have hs:=h.size;simp at hs;exact ⟨((bu [ad 0,.string ⟨#[]⟩] w 147).below h).alloc _,bu [ad a,.string b] w1 147,by omega,(((aK _ _).alloc (aq _) _).trans (h.mono (by simp))).alloc (by omega) _⟩
theorem XF (w:World) (a:Int) (b:ByteArray):Bm w (w.heap.size+1) a b ((w.alloc (.cells #[ad 0,.string ⟨#[]⟩] 147)).alloc (.cells #[ad a,.string b] 147)):=by have h:=Ig w _ a b (aK _ _);simpa using h
theorem yT {v u:Value} (h:v=u):Ending.returned v=.returned u:=by rw[h]
theorem XG (s:ByteArray) (w:World) (hs:s.size<=281474976710656):Calls prog 178 #[.string s] w (aT (nU s) w):=by
 have hm:s.size<=maxLen:=by unfold maxLen;omega
 have k0:=Ie s 0;have k1:=Ie s 1;have hn:(aO s 2 (aP s 1)).size<=281474976710656:=by have:=nn s 2 (aP s 1);omega
 have v2:(Lit.int .i64 2).wf=true:=by decide
 have v1:=Ic (aP s 1) (by omega) (by omega);have t1:=XF w (aP s 0) (aO s 2 (aP s 1));by_cases h16:s.size=16
 ·have g16:((s.size:Int) != 16)=false:=by simp;omega
  by_cases hP:((gG (aP s 0) (aO s 2 (aP s 1))).toList == s.toList)=true
  ·have HR:Hid (nU s=.tuple #[.agg #[ad (aP s 0),.string (aO s 2 (aP s 1))],.bool true]):=NW (by rw[gJ,wH,wI,hP,bF h16];rfl);go_enter func178,ntmps178;go_wp2_with (first
    | (go_at_call 175;refine (Bg _ _ _ hm).mono ?_;rintro e w' ⟨rfl,rfl⟩)
    | (go_at_call 78;refine (np _ _ _ _ hm v2 v1).mono ?_;rintro e w' ⟨rfl,rfl⟩)
    | (go_at_call 164;refine (Bl _ _ _ hn).mono ?_;rintro e w2 ⟨rfl,b2⟩;have t2:=t1.below b2;have c0:=t2.n.c0;have c1:=t2.n.c1;have f0:=t2.n.f0;have f1:=t2.n.f1;have d0:=t2.m.c0;have d1:=t2.m.c1))
   have q:=t2.n.rO (ad (aP s 0)) (.string (aO s 2 (aP s 1)));exact bL (v:=.tuple #[.agg #[ad (aP s 0),.string (aO s 2 (aP s 1))],.bool true]) (by simp[results,results178,go_sem,q.c0,q.c1]) rfl
    ⟨yT HR.out.symm,(t2.ah.setCell (p:=⟨w.heap.size,0,none⟩) (aq _) _).setCell (p:=⟨w.heap.size,1,none⟩) (aq _) _⟩
  have hP':((gG (aP s 0) (aO s 2 (aP s 1))).toList == s.toList)=false:=by simpa using hP
  have HR:Hid (nU s=.tuple #[.agg #[ad 0,.string ⟨#[]⟩],.bool false]):=Eg (by rw[gJ,wH,wI,hP',dU]);clear hP;go_enter func178,ntmps178;go_wp2_with (first
   | (go_at_call 175;refine (Bg _ _ _ hm).mono ?_;rintro e w' ⟨rfl,rfl⟩)
   | (go_at_call 78;refine (np _ _ _ _ hm v2 v1).mono ?_;rintro e w' ⟨rfl,rfl⟩)
   | (go_at_call 164;refine (Bl _ _ _ hn).mono ?_;rintro e w2 ⟨rfl,b2⟩;have t2:=t1.below b2;have c0:=t2.n.c0;have c1:=t2.n.c1;have f0:=t2.n.f0;have f1:=t2.n.f1;have d0:=t2.m.c0;have d1:=t2.m.c1))
  have q:=t2.n.rO (ad 0) (.string ⟨#[]⟩);exact bL (v:=.tuple #[.agg #[ad 0,.string ⟨#[]⟩],.bool false]) (by simp[results,results178,go_sem,q.c0,q.c1]) rfl
   ⟨yT HR.out.symm,(t2.ah.setCell (p:=⟨w.heap.size,0,none⟩) (aq _) _).setCell (p:=⟨w.heap.size,1,none⟩) (aq _) _⟩
 have g16:((s.size:Int) != 16)=true:=by simp;omega
 have HR:Hid (nU s=.tuple #[.agg #[ad 0,.string ⟨#[]⟩],.bool false]):=Eg (by rw[gJ,bq h16,dH]);have c0:=t1.n.c0;have c1:=t1.n.c1;have q:=t1.n.rO (ad 0) (.string ⟨#[]⟩);go_enter func178,ntmps178;go_wp2_with (first
  | (go_at_call 175;refine (Bg _ _ _ hm).mono ?_;rintro e w' ⟨rfl,rfl⟩)
  | (go_at_call 78;refine (np _ _ _ _ hm v2 v1).mono ?_;rintro e w' ⟨rfl,rfl⟩))
 refine bL (v:=.tuple #[.agg #[ad 0,.string ⟨#[]⟩],.bool false]) (by simp[results,results178,go_sem,q.c0,q.c1]) rfl
  ⟨yT HR.out.symm,?_⟩
 go_grown
theorem XH (s:ByteArray) (w:World) (hs:s.size<=281474976710656):Calls prog 194 #[.string s] w (aT (nU s) w):=by
 have hm:s.size<=maxLen:=by unfold maxLen;omega
 have hn:(aO s 2 (aP s 1)).size<=281474976710656:=by have:=nn s 2 (aP s 1);omega
 by_cases h16:s.size=16
 ·have g16:((s.size:Int) != 16)=false:=by simp;omega
  by_cases hP:((gG (aP s 0) (aO s 2 (aP s 1))).toList == s.toList)=true
  ·have HR:Hid (nU s=.tuple #[.agg #[ad (aP s 0),.string (aO s 2 (aP s 1))],.bool true]):=NW (by rw[gJ,wH,wI,hP,bF h16];rfl);go_enter func194,ntmps194;go_wp2_with (first
    | (go_at_call 227;refine (yR _ _ _ hm).mono ?_;rintro e w' ⟨rfl,rfl⟩)
    | (go_at_call 90;refine (sn _ _ _ _ hs).mono ?_;rintro e w1 ⟨rfl,b1⟩;have t1:=Ig w w1 (aP s 0) (aO s 2 (aP s 1)) b1)
    | (go_at_call 233;refine (NV _ _ _ hn).mono ?_;rintro e w2 ⟨rfl,b2⟩;have t2:=t1.below b2;have c0:=t2.n.c0;have c1:=t2.n.c1;have f0:=t2.n.f0;have f1:=t2.n.f1;have d0:=t2.m.c0;have d1:=t2.m.c1))
   have q:=t2.n.rO (ad (aP s 0)) (.string (aO s 2 (aP s 1)));exact bL (v:=.tuple #[.agg #[ad (aP s 0),.string (aO s 2 (aP s 1))],.bool true]) (by simp[results,results194,go_sem,q.c0,q.c1]) rfl
    ⟨yT HR.out.symm,(t2.ah.setCell (p:=⟨w.heap.size,0,none⟩) (aq _) _).setCell (p:=⟨w.heap.size,1,none⟩) (aq _) _⟩
  have hP':((gG (aP s 0) (aO s 2 (aP s 1))).toList == s.toList)=false:=by simpa using hP
  have HR:Hid (nU s=.tuple #[.agg #[ad 0,.string ⟨#[]⟩],.bool false]):=Eg (by rw[gJ,wH,wI,hP',dU]);clear hP;go_enter func194,ntmps194;go_wp2_with (first
   | (go_at_call 227;refine (yR _ _ _ hm).mono ?_;rintro e w' ⟨rfl,rfl⟩)
   | (go_at_call 90;refine (sn _ _ _ _ hs).mono ?_;rintro e w1 ⟨rfl,b1⟩;have t1:=Ig w w1 (aP s 0) (aO s 2 (aP s 1)) b1)
   | (go_at_call 233;refine (NV _ _ _ hn).mono ?_;rintro e w2 ⟨rfl,b2⟩;have t2:=t1.below b2;have c0:=t2.n.c0;have c1:=t2.n.c1;have f0:=t2.n.f0;have f1:=t2.n.f1;have d0:=t2.m.c0;have d1:=t2.m.c1))
  have q:=t2.n.rO (ad 0) (.string ⟨#[]⟩);exact bL (v:=.tuple #[.agg #[ad 0,.string ⟨#[]⟩],.bool false]) (by simp[results,results194,go_sem,q.c0,q.c1]) rfl
   ⟨yT HR.out.symm,(t2.ah.setCell (p:=⟨w.heap.size,0,none⟩) (aq _) _).setCell (p:=⟨w.heap.size,1,none⟩) (aq _) _⟩
 have g16:((s.size:Int) != 16)=true:=by simp;omega
 have HR:Hid (nU s=.tuple #[.agg #[ad 0,.string ⟨#[]⟩],.bool false]):=Eg (by rw[gJ,bq h16,dH]);go_enter func194,ntmps194;go_wp2;refine bL (v:=.tuple #[.agg #[ad 0,.string ⟨#[]⟩],.bool false]) (by simp[results,results194,go_sem]) rfl
  ⟨yT HR.out.symm,?_⟩
 go_grown
def bN (l:List Int) (x:Int):Bool:=l.contains x
def pM (zs:List Int) (i:Nat):Bool:=aW (zs.getD i 0) 5 23 && !(bN (zs.take i) (zs.getD i 0))
def so (zs:List Int) (k:Nat):Bool:=(List.range k).all (pM zs)
def dW (zs:List Int):Bool:=so zs zs.length
theorem NX (zs:List Int) (k:Nat):so zs (k+1)=(so zs k && pM zs k):=by simp[so,wF]
theorem yU {zs:List Int} {k n:Nat} (hk:k<n) (h:pM zs k=false):so zs n=false:=by rw[so,WM];exact ⟨k,mA.2 hk,by rw[h];decide⟩
theorem eS (zs:List Int) (k:Nat) (h:k<zs.length):zs.getD k 0=zs[k]:=by simp[List.getD,h]
theorem XI (zs:List Int) (k:Nat) (x:Int) (h:k<zs.length):bN (zs.take (k+1)) x=(bN (zs.take k) x || x == zs.getD k 0):=by unfold bN;rw[kr h,Np,Np,Nq,eS _ _ h];simp
theorem Ih {zs:List Int} {k n:Nat} (hk:k<n) (hn:n<=zs.length):bN (zs.take n) (zs.getD k 0)=true:=by unfold bN;rw[Nr];rw[eS _ _ (by omega)];exact uK.2 ⟨k,by simp;omega,by simp⟩
def fC (s:Int):Int:=(s+31) / 32
def aI (W:World) (a:Option Addr) (zs:List Int):Prop:=zs=[]\/∃ b off,a=some ⟨b,off,none⟩/\b<W.heap.size/\∀ j,j<zs.length->W.cell? ⟨b,off+j,none⟩=some (.int .i64 (zs.getD j 0))
theorem aI.below {W W':World} {a:Option Addr} {zs:List Int} (h:aI W a zs) (hb:aj W W'):aI W' a zs:=by
 rcases h with h | ⟨b,off,ha,hlt,hc⟩;·exact Or.inl h
 exact Or.inr ⟨b,off,ha,cS hlt hb.size,fun j hj=>(hb.cell (p:=⟨b,off+j,none⟩) hlt).trans (hc j hj)⟩
theorem aI.alloc {W:World} {a:Option Addr} {zs:List Int} (h:aI W a zs) (o:Obj):aI (W.alloc o) a zs:=h.below ((aK _ _).alloc (aq _) o)
theorem aI.drew {W:World} {a:Option Addr} {zs:List Int} (h:aI W a zs):aI W.drew a zs:=h
theorem aI.drewN {W:World} {a:Option Addr} {zs:List Int} (h:aI W a zs) (n:Nat):aI (W.drewN n) a zs:=h
theorem aI.get {W:World} {a:Option Addr} {zs:List Int} {k:Nat} (h:aI W a zs) (hk:k<zs.length):∃ b off,a=some ⟨b,off,none⟩/\b<W.heap.size/\∀ j,j<zs.length->af W b (off+j) (ad (zs.getD j 0)):=by
 rcases h with h | h
 ·subst h;simp at hk
 exact h
end Go.Proofs.YtidmmopnkjbjoaaGreatDoor
