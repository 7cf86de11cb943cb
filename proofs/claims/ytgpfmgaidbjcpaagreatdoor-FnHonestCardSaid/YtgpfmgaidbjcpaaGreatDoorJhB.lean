/- Joined texts. -/
import Derived.Test.YtgpfmgaidbjcpaaGreatDoorJhA
set_option linter.unusedVariables false
set_option linter.unusedSimpArgs false
set_option maxRecDepth 10000
set_option maxHeartbeats 16000000
namespace Go.Proofs.YtgpfmgaidbjcpaaGreatDoor
open ChangeShapes WideShapes ChangeAt RowKit
open Go.Proofs.Tryz
section
open List
theorem ar:(∀ {α:Type} {xs:List α} {i:Nat} (h:i<xs.toArray.size),xs.toArray[i]'h=xs[i]'(by simpa using h))/\(∀ {α:Type} {a:α} {zs:List α} {i:Nat} {h:i+1<(a :: zs).length},getElem (a :: zs) (i+1) h=getElem zs i (Nat.lt_of_succ_lt_succ h))/\(∀ {α:Type} {a:α} {zs:List α} {h:0<(a :: zs).length},getElem (a :: zs) 0 h=a)/\(∀ {α:Type} (l:List α) (i:Nat) (a:α),l.toArray.setIfInBounds i a=(l.set i a).toArray)/\(∀ {α:Type} {x y:α} {xs:List α} {i:Nat},(x :: xs).set (i+1) y=x :: xs.set i y)/\(∀ {α:Type} {x y:α} {xs:List α},(x :: xs).set 0 y=y :: xs):=⟨getElem_toArray,getElem_cons_succ _ _ _ _,getElem_cons_zero _ _ _,fun _ _ _=>setIfInBounds_toArray ..,set_cons_succ,set_cons_zero⟩
end
section
variable {P : Program}
theorem qL (b o j:Nat):(⟨b,o,none⟩:Addr).add j=⟨b,o+j,none⟩:=by unfold Addr.add;split <;> simp_all
def wO (w:World) (b o:Nat) (l:List UInt8):Prop:=∀ j (hj:j<l.length),w.cell? ⟨b,o+j,none⟩=some (.int .u8 (l[j].toNat:Int))
theorem tM (w:World) (src dst e:TypeId) (b o cap:Nat) (l:List UInt8) (hs:P.underlying src=some (.slice e)) (he:P.underlying e=some (.int .u8)) (hd:P.underlying dst=some .string) (h:wO w b o l) (n:Nat) (hn:n=l.length):(convert src dst (.slice (some ⟨b,o,none⟩) n cap)).run P w=.ok (.string ⟨l.toArray⟩) w:=by subst hn;exact run_convert_bytes_back w src dst e ⟨b,o,none⟩ cap l hs he hd (fun j hj=>by rw[qL];exact h j hj)
theorem Iz (w:World) (C:Array Value) (T:TypeId) (fr:Nat × Nat) (l:List UInt8) (h:∀ j (hj:j<l.length),C[j]? = some (.int .u8 (l[j].toNat:Int))):wO (w.alloc (.cells C T fr)) w.heap.size 0 l:=fun j hj=>by rw[dW,uQ];exact h j hj
theorem Zm (w:World) (src dst e:TypeId) (s:ByteArray) (hs:P.underlying src=some .string) (hd:P.underlying dst=some (.slice e)) (he:P.underlying e=some (.int .u8)):∃ W cap,(convert src dst (.string s)).run P w=.ok (aH w.heap.size s.size cap) W/\s.size<=cap/\ah w W/\w.heap.size<W.heap.size/\wO W w.heap.size 0 s.data.toList/\∀ j,j<s.size->W.frozen? ⟨w.heap.size,j,none⟩=false:=by
 have hc:s.size<=grownCap w s.size 0 e:=grownCap_ge w s.size 0 e;refine ⟨_,_,run_bytes_of_string w src dst e s hs hd he,hc,?_,?_,?_,?_⟩;·exact (aQ _ w).drew.alloc (av _) _
 ·show w.heap.size<(w.heap.push _).size
  simp
 ·refine Iz w.drew _ _ _ _ fun j hj=>?_;have hj':j<s.data.size:=by simpa using hj
  rw[bytesRow_at s _ j hj'];simp
 intro j hj;have:=DO w.drew (bytesRow s (grownCap w s.size 0 e)) e (bytesRow s (grownCap w s.size 0 e)).size ((bytesRow s (grownCap w s.size 0 e)).size+1) j;refine this.trans ?_;have hb:s.size<=(bytesRow s (grownCap w s.size 0 e)).size:=by have:s.data.size=s.size:=rfl;simp[bytesRow]
 have:¬ (bytesRow s (grownCap w s.size 0 e)).size<=j:=by omega
 simp[this]
theorem uX {B b:Nat} {a:World} (hb:B<=b):∀ (vs:List Value) (o:Nat) (w:World),Below B a w->Below B a (w.setCells b o vs)
 | [],_,_,h=>h
 | v :: r,o,w,h=>uX hb r (o+1) _ (h.setCell (by simpa using hb) v)
theorem wP (b:Nat):∀ (vs:List Value) (o:Nat) (w:World),(w.setCells b o vs).heap.size=w.heap.size
 | [],_,_=>rfl
 | v :: r,o,w=>by rw[World.setCells,wP b r];simp
theorem Oy (b:Nat):∀ (vs:List Value) (o:Nat) (w:World) (x:Addr),(w.cell? x).isSome=true->((w.setCells b o vs).cell? x).isSome=true
 | [],_,_,_,h=>h
 | v :: r,o,w,x,h=>by
  rw[World.setCells];refine Oy b r (o+1) _ x ?_;by_cases e:(⟨b,o,none⟩:Addr)=x
  ·subst e;obtain ⟨u,hu⟩:=al7.1 h;rw[ov _ _ _ hu];rfl
  ·rw[gH _ _ _ _ e];exact h
theorem Zn (w:World) (dT sT ty elem:TypeId) (b o dLen dCap:Nat) (t:ByteArray) (hu:P.underlying dT=some (.slice elem)) (hs:(P.info? elem).map (·.size)=some 1) (hle:t.size<=dLen) (hc:∀ j,j<t.size->(w.cell? ⟨b,o+j,none⟩).isSome=true) (hf:∀ j,j<t.size->w.frozen? ⟨b,o+j,none⟩=false):(Builtin.copy_ #[dT,sT] ty #[.slice (some ⟨b,o,none⟩) dLen dCap,.string t]).run P w=.ok (goInt t.size) (w.setCells b o (Lib.byteCells t.data.toList)):=by
 have hlen:(Lib.byteCells t.data.toList).length=t.size:=by rw[nt,<- dX]
 have hst:=YM (P:=P) b o (Lib.byteCells t.data.toList) 0 w (by rw[hlen];simpa using hc) (by rw[hlen];simpa using hf) (H9 _);have hmin:Nat.min t.size dLen=t.size:=Nat.min_eq_left hle;have htk:List.take t.size (List.map (fun b:UInt8=>Value.int IntKind.u8 (b.toNat:Int)) t.data.toList)=Lib.byteCells t.data.toList:=by rw[ox (by rw[Ia,<- dX];exact av _)];rfl
 cases hq:P.info? elem with
 | none=>simp[hq] at hs
 | some i=>
  simp[Builtin.copy_,DP hu,Builtin.lenOf,Builtin.firstCells,sizeOf,typeInfo,hq,hmin,htk,hst]
theorem Zo (W:World) (b:Nat) (s t:List UInt8) (k:Nat) (hk:k+t.length<=s.length) (h:wO W b 0 s):wO (W.setCells b k (Lib.byteCells t)) b 0 (s.take k++t++s.drop (k+t.length)):=by
 have hl:(Lib.byteCells t).length=t.length:=nt t;have hin:∀ j,j<(Lib.byteCells t).length->(W.cell? ⟨b,k+j,none⟩).isSome=true:=fun j hj=>by have:=h (k+j) (by omega);rw[dW] at this;rw[this];rfl
 intro j hj;have hj':j<s.length:=by simp at hj;omega
 rw[dW];by_cases h1:j<k
 ·rw[Ib b _ k W _ (fun _ _=>Or.inl h1)];have:=h j hj';rw[dW] at this;rw[this,Ic (by simp;omega),Ic (by simp;omega),DQ]
 by_cases h2:j<k+t.length
 ·have:=World.cell?_setCells_in b (Lib.byteCells t) k W hin (j-k) (by omega);rw[show k+(j-k)=j by omega] at this;rw[this,Ic (by simp;omega),NX (by simp;omega)];have hm:min k s.length=k:=by omega
  simp[Lib.byteCells,hm]
 rw[Ib b _ k W _ (fun _ _=>Or.inr (by rw[hl];show k+t.length<=j;omega))];have:=h j hj';rw[dW] at this;have e:k+t.length+(j-(s.take k++t).length)=j:=by rw[de,jk];omega
 rw[this,NX (by simp;omega),List.getElem_drop];simp only[e]
end
def dq (z:Nat) (i n:Int):Bool:=decide (0<=i/\0<=n/\n<=(z:Int)-i)
theorem su {z:Nat} {i n:Int} (h:dq z i n=true):0<=i/\0<=n/\n<=(z:Int)-i:=by simpa [dq] using h
theorem Zp {z:Nat} {i n:Int} (h:dq z i n=false):¬ (0<=i/\0<=n/\n<=(z:Int)-i):=Ie h
theorem pL (s:ByteArray) (i n:Int) (w:World) (hs:s.size<=maxLen):Calls prog 37 #[.string s,aa i,aa n] w (el (.bool (dq s.size i n)) w):=by
 unfold maxLen at hs;by_cases h1:0<=i
 ·by_cases h2:0<=n
  ·by_cases h3:i<=(s.size:Int)
   ·by_cases h4:n<=(s.size:Int)-i
    ·have e:dq s.size i n=true:=bK ⟨h1,h2,h4⟩;rw[e];go_enter func37,ntmps37;go_wp2;go_ret;exact ⟨rfl,rfl⟩
    have e:dq s.size i n=false:=bA fun h=>h4 h.2.2;have h4':decide (n<=(s.size:Int)-i)=false:=by simpa using h4
    rw[e];go_enter func37,ntmps37;go_wp2;go_ret;exact ⟨rfl,rfl⟩
   have e:dq s.size i n=false:=bA fun h=>by omega
   have h3':decide (i<=(s.size:Int))=false:=by simpa using h3
   rw[e];go_enter func37,ntmps37;go_wp2;go_ret;exact ⟨rfl,rfl⟩
  have e:dq s.size i n=false:=bA fun h=>by omega
  have h2':decide (0<=n)=false:=by simpa using h2
  rw[e];go_enter func37,ntmps37;go_wp2;go_ret;exact ⟨rfl,rfl⟩
 have e:dq s.size i n=false:=bA fun h=>by omega
 have h1':decide (0<=i)=false:=by simpa using h1
 rw[e];go_enter func37,ntmps37;go_wp2;go_ret;exact ⟨rfl,rfl⟩
def aX (s:ByteArray) (i n:Int):ByteArray:=if dq s.size i n then s.extract i.toNat (i+n).toNat else ⟨#[]⟩
set_option maxRecDepth 4000 in
theorem pM (s:ByteArray) (i n:Int) (w:World) (hs:s.size<=maxLen) (wi:(Lit.int .i64 i).wf=true) (wn:(Lit.int .i64 n).wf=true):Calls prog 12 #[.string s,aa i,aa n] w (el (.string (aX s i n)) w):=by
 unfold maxLen at hs;by_cases h1:i<0
 ·have e:aX s i n=⟨#[]⟩:=by rw[aX,show dq s.size i n=false from bA fun h=>by omega];rfl
  rw[e];go_enter func12,ntmps12;go_wp2;go_ret;exact ⟨rfl,rfl⟩
 by_cases h2:n<0
 ·have e:aX s i n=⟨#[]⟩:=by rw[aX,show dq s.size i n=false from bA fun h=>by omega];rfl
  rw[e];go_enter func12,ntmps12;go_wp2;go_ret;exact ⟨rfl,rfl⟩
 by_cases h3:(s.size:Int)<n
 ·have e:aX s i n=⟨#[]⟩:=by rw[aX,show dq s.size i n=false from bA fun h=>by omega];rfl
  rw[e];go_enter func12,ntmps12;go_wp2;go_ret;exact ⟨rfl,rfl⟩
 by_cases h4:(s.size:Int)-n<i
 ·have e:aX s i n=⟨#[]⟩:=by rw[aX,show dq s.size i n=false from bA fun h=>by omega];rfl
  rw[e];go_enter func12,ntmps12;go_wp2;go_ret;exact ⟨rfl,rfl⟩
 have e:aX s i n=s.extract i.toNat (i+n).toNat:=by rw[aX,show dq s.size i n=true from bK (by omega)];rfl
 rw[e];have h5:i<=i+n:=by omega
 have h6:i+n<=(s.size:Int):=by omega
 go_enter func12,ntmps12;go_wp2;go_ret;exact ⟨rfl,rfl⟩
section
structure az (B:Nat) (vs:List Value) (W:World):Prop where
 cell:∀ j (h:j<vs.length),W.cell? ⟨B,j,none⟩=some vs[j]
 free:∀ j,j<vs.length->W.frozen? ⟨B,j,none⟩=false
 lt:B<W.heap.size
variable {B : Nat} {vs : List Value} {w W W' : World}
theorem az.below (h:az B vs W) (hb:ah W W'):az B vs W':=⟨fun j hj=>(hb.cell (p:=⟨B,j,none⟩) h.lt).trans (h.cell j hj),fun j hj=>(hb.frozen (p:=⟨B,j,none⟩) h.lt).trans (h.free j hj),cv h.lt hb.size⟩
theorem az.alloc (h:az B vs W) (o:Obj):az B vs (W.alloc o):=h.below ((aQ _ _).alloc (av _) o)
theorem az.drew (h:az B vs W):az B vs W.drew:=⟨h.cell,h.free,h.lt⟩
theorem az.drewN (h:az B vs W) (n:Nat):az B vs (W.drewN n):=⟨h.cell,h.free,h.lt⟩
theorem aY (vs:List Value) (w:World) (T:TypeId):az w.heap.size vs (w.alloc (.cells vs.toArray T)):=by
 refine ⟨fun j hj=>?_,fun j hj=>?_,?_⟩
 ·rw[uQ];simp[hj]
 ·have h:=DO w vs.toArray T 0 0 j;rw[h];simp
 simp
theorem dR (vs:List Value) (w:World) (T:TypeId) (hB:w.heap.size=B):az B vs (w.alloc (.cells vs.toArray T)):=hB ▸ aY vs w T
theorem az.set (h:az B vs W) (j:Nat) (v:Value):az B (vs.set j v) (W.setCell ⟨B,j,none⟩ v):=by
 refine ⟨fun k hk=>?_,fun k hk=>?_,?_⟩
 ·have hk':k<vs.length:=by simpa using hk
  by_cases e:j=k
  ·subst e;rw[ov _ _ _ (h.cell j hk')];simp
  rw[gH _ _ _ _ (fun x=>e (uR x).2.1),h.cell k hk',List.getElem_set_ne e]
 ·rw[iu];exact h.free k (by simpa using hk)
 have:=h.lt;simpa [World.setCell] using this
theorem az.aP (h:az B vs W) {B':Nat} (hne:B'≠B) (j:Nat) (v:Value):az B vs (W.setCell ⟨B',j,none⟩ v):=by
 refine ⟨fun k hk=>?_,fun k hk=>?_,?_⟩
 ·rw[gH _ _ _ _ (fun x=>hne (uR x).1)];exact h.cell k hk
 ·rw[iu];exact h.free k hk
 have:=h.lt;simpa [World.setCell] using this
theorem az.c0 {a:Value} {l:List Value} (h:az B (a :: l) W):ad W B 0 a:=h.cell 0 (by simp)
theorem az.c1 {a b:Value} {l:List Value} (h:az B (a :: b :: l) W):ad W B 1 b:=h.cell 1 (by simp)
theorem az.c2 {a b c:Value} {l:List Value} (h:az B (a :: b :: c :: l) W):ad W B 2 c:=h.cell 2 (by simp)
theorem az.c3 {a b c d:Value} {l:List Value} (h:az B (a :: b :: c :: d :: l) W):ad W B 3 d:=h.cell 3 (by simp)
theorem az.f0 {a:Value} {l:List Value} (h:az B (a :: l) W):W.frozen? ⟨B,0,none⟩=false:=h.free 0 (by simp)
theorem az.f1 {a b:Value} {l:List Value} (h:az B (a :: b :: l) W):W.frozen? ⟨B,1,none⟩=false:=h.free 1 (by simp)
theorem az.f2 {a b c:Value} {l:List Value} (h:az B (a :: b :: c :: l) W):W.frozen? ⟨B,2,none⟩=false:=h.free 2 (by simp)
theorem az.f3 {a b c d:Value} {l:List Value} (h:az B (a :: b :: c :: d :: l) W):W.frozen? ⟨B,3,none⟩=false:=h.free 3 (by simp)
theorem az.vX {a b:Value} (h:az B [a,b] W) (x y:Value):az B [x,y] ((W.setCell ⟨B,0,none⟩ x).setCell ⟨B,1,none⟩ y):=(h.set 0 x).set 1 y
theorem az.dQ {a b c d:Value} (h:az B [a,b,c,d] W) (x y z u:Value):az B [x,y,z,u] ((((W.setCell ⟨B,0,none⟩ x).setCell ⟨B,1,none⟩ y).setCell ⟨B,2,none⟩ z).setCell ⟨B,3,none⟩ u):=(((h.set 0 x).set 1 y).set 2 z).set 3 u
theorem gy {B:Nat} {a w:World} (h:Below B a w) (n:Nat):Below B a (w.drewN n):=⟨h.os,h.tape,h.output,h.size,h.block⟩
theorem aA (w:World) (o:Obj):ah w (w.alloc o):=(aQ _ _).alloc (av _) o
end
def bp (x a b:Int):Bool:=decide (a<=x/\x<=b)
theorem pN {x a b:Int} (h:bp x a b=true):a<=x/\x<=b:=by simpa [bp] using h
theorem Zq {x a b:Int} (h:bp x a b=false):¬ (a<=x/\x<=b):=by simpa [bp] using h
theorem fb (x a b:Int) (w:World):Calls prog 78 #[aa x,aa a,aa b] w (el (.bool (bp x a b)) w):=by
 by_cases h1:a<=x
 ·by_cases h2:x<=b
  ·have e:bp x a b=true:=by simp[bp,h1,h2]
   rw[e];go_enter func78,ntmps78;go_wp2;go_ret;exact ⟨rfl,rfl⟩
  have e:bp x a b=false:=by simp[bp,h2]
  have h2':decide (x<=b)=false:=by simpa using h2
  rw[e];go_enter func78,ntmps78;go_wp2;go_ret;exact ⟨rfl,rfl⟩
 have e:bp x a b=false:=by simp[bp,h1]
 have h1':decide (a<=x)=false:=by simpa using h1
 rw[e];go_enter func78,ntmps78;go_wp2;go_ret;exact ⟨rfl,rfl⟩
def jm (k:Nat):ByteArray:=⟨Array.replicate k 0⟩
def bG (n:Int):ByteArray:=if n<=5000 then jm n.toNat else ⟨#[]⟩
theorem Zr (k:Nat):jm k ++ ⟨#[0]⟩=jm (k+1):=by apply kD;simp[jm,YN]
theorem sw (k:Nat):(jm k).size=k:=by simp[jm,ByteArray.size]
theorem Zs:(prog.info? 5).map (fun i=>(i.zero,i.size,i.bytes))=some (some (.int .u8 0),1,1):=by kernel_rfl
theorem wQ (n:Int) (w:World):Calls prog 90 #[aa n] w (el (.string (bG n)) w):=by
 by_cases h:n<=5000
 ·have e:bG n=jm n.toNat:=by rw[bG,aN h]
  rw[e];go_enter func90,ntmps90;go_wp2;go_loop [3,4] (fun t i=>∃ k:Nat,k<=n.toNat/\i=aa k/\t=.string (jm k)) (fun _ i=>n.toNat-(intOf i).toNat)
  case atStart=>exact ⟨0,bh _,rfl,rfl⟩
  case round=>
  obtain ⟨k,hk,rfl,rfl⟩:=hrel;by_cases hlt:(k:Int)<n
  ·have hz:(jm k).size+1<=9223372036854775807:=by rw[sw];omega
   go_wp2;go_round;case rel=>exact ⟨k+1,by omega,by go_num,by first | rfl | rw[<- Zr]⟩
   case measure=>simp[intOf];omega
  have hf:decide ((k:Int)<n)=false:=by simpa using hlt
  go_wp2;go_ret;have hk':k=n.toNat:=by omega
  exact ⟨by rw[<- hk'];rfl,rfl⟩
 have e:bG n=⟨#[]⟩:=by rw[bG,aM h]
 have hf:decide (n<=5000)=false:=by simpa using h
 rw[e];go_enter func90,ntmps90;go_wp2;go_loop [3,4] (fun t i=>i=aa 0/\t=.string ⟨#[]⟩) (fun _ _=>0)
 case atStart=>exact ⟨rfl,rfl⟩
 case round=>
 obtain ⟨rfl,rfl⟩:=hrel;go_wp2;go_ret;exact ⟨rfl,rfl⟩
set_option maxRecDepth 4000 in
theorem wR (n:Int) (w:World):Calls prog 42 #[aa n] w (aV (.string (bG n)) w):=by
 by_cases h1:n<0
 ·have e:bG n=⟨#[]⟩:=by rw[bG,aN (by omega),show n.toNat=0 by omega];rfl
  rw[e];go_enter func42,ntmps42;go_wp2;go_ret;exact ⟨rfl,aQ _ _⟩
 by_cases h2:5000<n
 ·have e:bG n=⟨#[]⟩:=by rw[bG,aM (by omega)]
  rw[e];go_enter func42,ntmps42;go_wp2;go_ret;exact ⟨rfl,aQ _ _⟩
 have e:bG n=jm n.toNat:=by rw[bG,aN (by omega)]
 rw[e];obtain ⟨i0,hi,hz0,hz1,hz2⟩:=iv Zs;obtain ⟨M,hM⟩:∃ M,M=madeCells (Value.int .u8 0).cells (n.toNat*i0.size):=⟨_,rfl⟩;have hmk:∀ W:World,(Instr.makeSlice 22 (aa n) (aa n)).run prog W=.ok (aH W.heap.size n.toNat n.toNat) (W.alloc (.cells M 5)):=fun W=>by have h:=run_make (P:=prog) W 22 5 i0 (.int .u8 0) underlying22 hi hz0 .i64 .i64 n n (by omega) (by omega) (by rw[hz2];omega) (by omega);rwa [<- hM] at h
 have hcv:∀ W:World,(convert 22 9 (aH W.heap.size n.toNat n.toNat)).run prog (W.alloc (.cells M 5))=.ok (.string (jm n.toNat)) (W.alloc (.cells M 5)):=fun W=>by
  have h:=tM (P:=prog) (W.alloc (.cells M 5)) 22 9 5 W.heap.size 0 n.toNat (List.replicate n.toNat 0) underlying22 underlying5 underlying9
   (Iz _ _ _ _ _ fun j hj=>by
    have hj':j<n.toNat:=by simpa using hj
    rw[hM,<- DS,show (Value.int .u8 0).cells=#[Value.int .u8 0] from rfl,YO,hz1]
    simp[hj']) n.toNat (by simp)
  have e2:(⟨(List.replicate n.toNat (0:UInt8)).toArray⟩:ByteArray)=jm n.toNat:=by simp[jm]
  rwa [e2] at h
 clear hM;clear hi hz0 hz1 hz2;go_enter func42,ntmps42;go_wp2;go_ret;exact ⟨rfl,by go_grown⟩
def bs (s:ByteArray) (i:Int) (t:ByteArray):ByteArray:=if dq s.size i t.size then s.extract 0 i.toNat++t++s.extract (i+t.size).toNat s.size else s
theorem Ea (s:ByteArray) (i:Int) (t:ByteArray) (w:World) (hs:s.size<=281474976710656) (ht:t.size<=281474976710656):Calls prog 70 #[.string s,aa i,.string t] w fun e w'=>e=.returned (.string (bs s i t))/\∃ n,w'=w.drewN n:=by
 by_cases h1:i<0
 ·have e:bs s i t=s:=by rw[bs,show dq s.size i t.size=false from bA fun h=>by omega];rfl
  rw[e];go_enter func70,ntmps70;go_wp2;go_ret;exact ⟨rfl,0,rfl⟩
 by_cases h3:(s.size:Int)<(t.size:Int)
 ·have e:bs s i t=s:=by rw[bs,show dq s.size i t.size=false from bA fun h=>by omega];rfl
  rw[e];go_enter func70,ntmps70;go_wp2;go_ret;exact ⟨rfl,0,rfl⟩
 by_cases h4:(s.size:Int)-(t.size:Int)<i
 ·have e:bs s i t=s:=by rw[bs,show dq s.size i t.size=false from bA fun h=>by omega];rfl
  rw[e];go_enter func70,ntmps70;go_wp2;go_ret;exact ⟨rfl,0,rfl⟩
 have e:bs s i t=s.extract 0 i.toNat++t++s.extract (i+t.size).toNat s.size:=by rw[bs,show dq s.size i t.size=true from bK (by omega)];rfl
 rw[e];have h5:i<=(s.size:Int):=by omega
 have h6:i+(t.size:Int)<=(s.size:Int):=by omega
 have h7:0<=i+(t.size:Int):=by omega
 have z1:(s.extract 0 i.toNat).size<=s.size:=by simp only[pH];omega
 have z2:(s.extract (i+t.size).toNat s.size).size<=s.size:=by simp only[pH];omega
 have z3:(s.extract 0 i.toNat).size+t.size<=9223372036854775807:=by omega
 have z4:(s.extract 0 i.toNat++t).size+(s.extract (i+t.size).toNat s.size).size<=9223372036854775807:=by rw[ke];omega
 go_enter func70,ntmps70;go_wp2;go_quiet (fail);go_wp2;go_ret;exact ⟨rfl,_,rfl⟩
theorem Eb (s:ByteArray) (k:Nat) (t:ByteArray) (h:k+t.size<=s.size):s.extract 0 k++t++s.extract (k+t.size) s.size=⟨(s.data.toList.take k++t.data.toList++s.data.toList.drop (k+t.data.toList.length)).toArray⟩:=by
 apply kD;apply sk.1;have e1:(s.data.toList.drop (k+t.data.toList.length)).take (s.size-(k+t.size))=s.data.toList.drop (k+t.data.toList.length):=
  ox (by rw[kE,<- dX,<- dX];omega)
 simp only[pI,uS,wH,Ig,Ih];rw[dX t] at *;rw[e1]
theorem Oz:(prog.info? 5).map (·.size)=some 1:=by kernel_rfl
theorem uY (s:ByteArray) (i:Int) (t:ByteArray) (w:World) (hs:s.size<=281474976710656) (ht:t.size<=281474976710656):Calls prog 41 #[.string s,aa i,.string t] w (aV (.string (bs s i t)) w):=by
 have hs':s.size<=maxLen:=by unfold maxLen;omega
 obtain ⟨W,cap,hcv,hcap,hb,hz,hH,hF⟩:=Zm (P:=prog) w 9 22 5 s underlying9 underlying22 underlying5;have hlen:s.data.toList.length=s.size:=(dX s).symm;have hself:(⟨s.data.toList.toArray⟩:ByteArray)=s:=Bc s;have hback:(convert 22 9 (aH w.heap.size s.size cap)).run prog W=.ok (.string s) W:=by have:=tM (P:=prog) W 22 9 5 w.heap.size 0 cap s.data.toList underlying22 underlying5 underlying9 hH s.size hlen.symm;rwa [hself] at this
 by_cases h:dq s.size i t.size=true
 ·obtain ⟨h1,h2,h3⟩:=su h;have e:bs s i t=s.extract 0 i.toNat++t++s.extract (i+t.size).toNat s.size:=by rw[bs,h];rfl
  by_cases h0:t.size=0
  ·have e':bs s i t=s:=by
    rw[e,show (i+(t.size:Int)).toNat=i.toNat+t.size by omega,Eb s i.toNat t (by omega)];have:t.data.toList=[]:=sn (by rw[<- dX];exact h0);rw[this];simp
   have hcp:∀ d dl dc W',(Builtin.copy_ #[22,9] 3 #[.slice d dl dc,.string t]).run prog W'=.ok (goInt 0) W':=fun d dl dc W'=>
    Lib.run_copy_empty_string W' 22 9 3 5 d dl dc t underlying22 (by rw[Oz];rfl) h0
   rw[e'];clear hH hF e e' hself h0;by_cases h9:cap=i.toNat
   ·subst h9;go_enter func41,ntmps41;go_wp2_with (go_at_call 37;refine (pL _ _ _ _ hs').mono ?_;rintro e w' ⟨rfl,rfl⟩);go_ret;exact ⟨rfl,hb⟩
   go_enter func41,ntmps41;go_wp2_with (go_at_call 37;refine (pL _ _ _ _ hs').mono ?_;rintro e w' ⟨rfl,rfl⟩);go_ret;exact ⟨rfl,hb⟩
  have h9:¬ cap=i.toNat:=by omega
  have htl:t.data.toList.length=t.size:=(dX t).symm;have hcp:=Zn (P:=prog) W 22 9 3 5 w.heap.size i.toNat (s.size-i.toNat) (cap-i.toNat) t underlying22 Oz (by omega)
   (fun j hj=>by have:=hH (i.toNat+j) (by omega);rw[dW] at this;rw[this];rfl) (fun j hj=>hF _ (by omega))
  have hH2:=Zo W w.heap.size s.data.toList t.data.toList i.toNat (by omega) hH;have hb2:ah w (W.setCells w.heap.size i.toNat (Lib.byteCells t.data.toList)):=uX (av _) _ _ _ hb;obtain ⟨W2,hW2⟩:∃ W2,W2=W.setCells w.heap.size i.toNat (Lib.byteCells t.data.toList):=⟨_,rfl⟩;rw[<- hW2] at hcp hH2 hb2;have hback2:(convert 22 9 (aH w.heap.size s.size cap)).run prog W2=.ok (.string (bs s i t)) W2:=by have:=tM (P:=prog) W2 22 9 5 w.heap.size 0 cap _ underlying22 underlying5 underlying9 hH2 s.size (by simp;omega);rw[e,show (i+(t.size:Int)).toNat=i.toNat+t.size by omega,Eb s i.toNat t (by omega)];exact this
  clear hH hF hH2 hW2 e hself hback h0 hlen htl;go_enter func41,ntmps41;go_wp2_with (go_at_call 37;refine (pL _ _ _ _ hs').mono ?_;rintro e w' ⟨rfl,rfl⟩);go_ret;exact ⟨rfl,hb2⟩
 have h':dq s.size i t.size=false:=by simpa using h
 have e:bs s i t=s:=by rw[bs,h'];rfl
 rw[e];clear hH hF e hself;go_enter func41,ntmps41;go_wp2_with (go_at_call 37;refine (pL _ _ _ _ hs').mono ?_;rintro e w' ⟨rfl,rfl⟩);go_ret;exact ⟨rfl,hb⟩
def aW (s:ByteArray) (i:Int):Int:=if h:0<=i/\i<s.size then (s[i.toNat]'(by omega)).toNat else 0
theorem Bm (s:ByteArray) (i:Int) (w:World) (hs:s.size<=maxLen):Calls prog 181 #[.string s,aa i] w (el (aa (aW s i)) w):=by
 unfold maxLen at hs;by_cases h:0<=i/\i<s.size
 ·have hin:bp i 0 ((s.size:Int)-1)=true:=by simp[bp];omega
  have e:aW s i=(s[i.toNat]'(by omega)).toNat:=by simp[aW,h]
  obtain ⟨h1,h2⟩:=h;rw[e];have hb:=(s[i.toNat]'(by omega)).toNat_lt;go_enter func181,ntmps181;go_wp2_with (go_at_call 78;refine (fb _ _ _ _).mono ?_;rintro e w' ⟨rfl,rfl⟩);go_ret;exact ⟨rfl,rfl⟩
 have hin:bp i 0 ((s.size:Int)-1)=false:=by simp[bp];omega
 have e:aW s i=0:=by simp[aW,h]
 rw[e];go_enter func181,ntmps181;go_wp2_with (go_at_call 78;refine (fb _ _ _ _).mono ?_;rintro e w' ⟨rfl,rfl⟩);go_ret;exact ⟨rfl,rfl⟩
theorem zd (s:ByteArray) (i:Int) (w:World) (hs:s.size<=maxLen):Calls prog 32 #[.string s,aa i] w (el (aa (aW s i)) w):=by
 unfold maxLen at hs;by_cases h:0<=i/\i<s.size
 ·have e:aW s i=(s[i.toNat]'(by omega)).toNat:=by simp[aW,h]
  obtain ⟨h1,h2⟩:=h;rw[e];have hb:=(s[i.toNat]'(by omega)).toNat_lt;have h1':¬ i<0:=by omega
  go_enter func32,ntmps32;go_wp2;go_ret;exact ⟨rfl,rfl⟩
 have e:aW s i=0:=by simp[aW,h]
 rw[e];by_cases h1:i<0
 ·go_enter func32,ntmps32;go_wp2;go_ret;exact ⟨rfl,rfl⟩
 have h2:(s.size:Int)<=i:=by omega
 go_enter func32,ntmps32;go_wp2;go_ret;exact ⟨rfl,rfl⟩
def jn (c:UInt8):Bool:=decide (97<=c.toNat/\c.toNat<=122) || (decide (48<=c.toNat/\c.toNat<=57) || decide (c.toNat=46))
theorem OA {c:UInt8} (h:jn c=false):¬ (97<=c.toNat/\c.toNat<=122)/\¬ (48<=c.toNat/\c.toNat<=57)/\¬ c.toNat=46:=by simp only[jn,Bool.or_eq_false_iff,wI] at h;exact h
theorem OB {c:UInt8} (h:jn c=true):(97<=c.toNat/\c.toNat<=122)\/(48<=c.toNat/\c.toNat<=57)\/c.toNat=46:=by simp only[jn,nx,dp] at h;exact h
def Ec (s:ByteArray):Bool:=s.toList == [46]
def Ed (s:ByteArray):Bool:=s.toList == [46,46]
def jo (s:ByteArray):Bool:=s.data.toList.all jn && (bp s.size 1 14 && (!Ec s && !Ed s))
def fm (i:Int) (s:ByteArray):Bool:=jo s && bp i 1 7
theorem Zt (s:ByteArray) (k:Nat) (h:k<s.size):s.data.toList.take (k+1)=s.data.toList.take k ++ [s[k]]:=by rw[mq (by rw[<- dX];exact h)];rfl
theorem OC (s:ByteArray):s.data.toList.take s.size=s.data.toList:=ox (by rw[<- dX];exact av _)
theorem OD {s:ByteArray} {k:Nat} (h:k<s.size) (ha:(s.data.toList.take k).all jn=true) (hc:jn s[k]=true):(s.data.toList.take (k+1)).all jn=true:=by rw[Zt s k h];simp only[List.all_append,List.all_cons,List.all_nil,NY,ca];exact ⟨ha,hc⟩
theorem Zu {s:ByteArray} {k:Nat} (hk:k<s.size) (h:jn s[k]=false):s.data.toList.all jn=false:=by
 rw[YP];refine ⟨s[k],?_,by rw[h];decide⟩;have hk':k<s.data.toList.length:=by rw[<- dX];exact hk
 exact ny hk'
theorem IA {s:ByteArray} {k:Nat} (hk:k<s.size) (h:jn s[k]=false):jo s=false:=by rw[jo,Zu hk h];rfl
theorem OE {s:ByteArray} (h:s.data.toList.all jn=true):jo s=(bp s.size 1 14 && (!Ec s && !Ed s)):=by rw[jo,h];rfl
theorem IB {s:ByteArray} (h:jo s=true):1<=s.size/\s.size<=14:=by simp only[jo,ca] at h;have:=pN h.2.1;omega
theorem Ee {i:Int} {s:ByteArray} (h:fm i s=true):jo s=true/\(1<=i/\i<=7):=by simp only[fm,ca] at h;exact ⟨h.1,pN h.2⟩
def Bp (i:Int) (s:ByteArray):ByteArray:=⟨#[UInt8.ofNat i.toNat,UInt8.ofNat s.size]⟩++s
def fY (i:Int) (s:ByteArray):ByteArray:=if fm i s then Bp i s++jm (14-s.size) else ⟨#[]⟩
theorem Zv (i:Int) (s:ByteArray):(Bp i s).size=2+s.size:=by rw[Bp,ke];rfl
theorem OF (t:ByteArray) (n:Nat) (h:t.size<=n):bs (jm n) 0 t=t++jm (n-t.size):=by
 have hz:=sw n;rw[bs,show dq (jm n).size 0 t.size=true from bK (by omega),aN rfl]
 have h2:((0:Int)+(t.size:Int)).toNat=0+t.size:=by omega
 rw[h2];have:=Eb (jm n) 0 t (by omega);rw[show ((0:Int)).toNat=0 from rfl,this]
 apply kD;simp only[pI];apply sk.1;simp only[uS,List.take_zero,qE,dW,jm,Array.toList_replicate,List.drop_replicate];rw[<- dX]
theorem lf {a b:Bool} (h:a=b):Ending.returned (.bool a)=.returned (.bool b):=by rw[h]
theorem Zw (c:UInt8):bp (c.toNat:Int) 97 122=decide (97<=c.toNat/\c.toNat<=122):=by unfold bp;rw[decide_eq_decide];omega
theorem Zx (c:UInt8):bp (c.toNat:Int) 48 57=decide (48<=c.toNat/\c.toNat<=57):=by unfold bp;rw[decide_eq_decide];omega
set_option maxRecDepth 4000 in
theorem Zy (i:Int) (s:ByteArray) (w:World) (hs:s.size<=281474976710656):Calls prog 174 #[.agg #[aa i,.string s]] w fun e w'=>e=.returned (.bool (fm i s))/\w'=w.alloc (.cells #[aa i,.string s] 47):=by
 go_enter func174,ntmps174;go_wp2;go_loop [3] (fun t=>∃ k:Nat,k<=s.size/\(s.data.toList.take k).all jn=true/\t=aa k) (fun t=>s.size-(intOf t).toNat)
 case atStart=>exact ⟨0,bh _,rfl,rfl⟩
 case round=>
 obtain ⟨k,hk,hall,rfl⟩:=hrel;by_cases hlt:k<s.size
 ·have hc:=s[k].toNat_lt;have hi1:=Zw s[k];have hi2:=Zx s[k];by_cases hd:jn s[k]=true
  ·have HA:Hid ((s.data.toList.take (k+1)).all jn=true):=OD hlt hall hd;have hcase:=OB hd;clear hall hd;by_cases h1:97<=s[k].toNat/\s[k].toNat<=122
   ·rw[bK h1] at hi1;clear hcase hi2;go_wp2_with (go_at_call 78;refine (fb _ _ _ _).mono ?_;rintro e w' ⟨rfl,rfl⟩);go_round;case rel=>exact ⟨k+1,by omega,HA.out,by go_num⟩
    case measure=>simp[intOf];omega
   rw[bA h1] at hi1;by_cases h2:48<=s[k].toNat/\s[k].toNat<=57
   ·rw[bK h2] at hi2;clear hcase;go_wp2_with (go_at_call 78;refine (fb _ _ _ _).mono ?_;rintro e w' ⟨rfl,rfl⟩);go_round;case rel=>exact ⟨k+1,by omega,HA.out,by go_num⟩
    case measure=>simp[intOf];omega
   rw[bA h2] at hi2;have h3:((s[k].toNat:Int) != 46)=false:=by simp;omega
   clear hcase;go_wp2_with (go_at_call 78;refine (fb _ _ _ _).mono ?_;rintro e w' ⟨rfl,rfl⟩);go_round;case rel=>exact ⟨k+1,by omega,HA.out,by go_num⟩
   case measure=>simp[intOf];omega
  have hd':jn s[k]=false:=by simpa using hd
  obtain ⟨n1,n2,n3⟩:=OA hd';rw[bA n1] at hi1;rw[bA n2] at hi2;have h3:((s[k].toNat:Int) != 46)=true:=by simp;omega
  have HR:Hid (fm i s=false):=by rw[fm,IA hlt hd'];rfl
  clear hall hd hd';go_wp2_with (go_at_call 78;refine (fb _ _ _ _).mono ?_;rintro e w' ⟨rfl,rfl⟩);go_ret;exact ⟨lf HR.out.symm,rfl⟩
 obtain rfl:k=s.size:=by omega
 rw[OC] at hall;have HR:Hid (fm i s=((bp s.size 1 14 && (!(s.toList == [46]) && !(s.toList == [46,46]))) && bp i 1 7)):=by rw[fm,OE hall];rfl
 clear hall;by_cases h1:bp i 1 7=true
 ·by_cases h2:bp s.size 1 14=true
  ·by_cases h3:(s.toList == [46])=true
   ·go_wp2_with (go_at_call 78;refine (fb _ _ _ _).mono ?_;rintro e w' ⟨rfl,rfl⟩);go_ret;exact ⟨lf (by rw[HR.out,h1,h2,h3];rfl),rfl⟩
   have h3':(s.toList == [46])=false:=by simpa using h3
   by_cases h4:(s.toList == [46,46])=true
   ·go_wp2_with (go_at_call 78;refine (fb _ _ _ _).mono ?_;rintro e w' ⟨rfl,rfl⟩);go_ret;exact ⟨lf (by rw[HR.out,h1,h2,h3',h4];rfl),rfl⟩
   have h4':(s.toList == [46,46])=false:=by simpa using h4
   go_wp2_with (go_at_call 78;refine (fb _ _ _ _).mono ?_;rintro e w' ⟨rfl,rfl⟩);go_ret;exact ⟨lf (by rw[HR.out,h1,h2,h3',h4'];rfl),rfl⟩
  have h2':bp s.size 1 14=false:=by simpa using h2
  go_wp2_with (go_at_call 78;refine (fb _ _ _ _).mono ?_;rintro e w' ⟨rfl,rfl⟩);go_ret;exact ⟨lf (by rw[HR.out,h1,h2'];rfl),rfl⟩
 have h1':bp i 1 7=false:=by simpa using h1
 go_wp2_with (go_at_call 78;refine (fb _ _ _ _).mono ?_;rintro e w' ⟨rfl,rfl⟩);go_ret;exact ⟨lf (by rw[HR.out,h1',eS]),rfl⟩
theorem Bs (w:World) (s:ByteArray) (k:Nat):ah w (w.iter s k):=(aQ _ w).alloc (av _) _
set_option maxRecDepth 4000 in
theorem Zz (s:ByteArray) (w:World) (hs:s.size<=281474976710656):Calls prog 171 #[.string s] w (aV (.bool (jo s)) w):=by
 by_cases z1:(s.size:Int)<1
 ·have HR:Hid (jo s=false):=by rw[jo,show bp s.size 1 14=false from bA (by omega),dC,eS];rfl
  go_enter func171,ntmps171;go_wp2;go_ret;exact ⟨lf HR.out.symm,aQ _ _⟩
 by_cases z2:14<(s.size:Int)
 ·have HR:Hid (jo s=false):=by rw[jo,show bp s.size 1 14=false from bA (by omega),dC,eS];rfl
  go_enter func171,ntmps171;go_wp2;go_ret;exact ⟨lf HR.out.symm,aQ _ _⟩
 by_cases h3:(s.toList == [46])=true
 ·have HR:Hid (jo s=false):=by rw[jo,Ec,h3,tG,dC,eS,eS];rfl
  go_enter func171,ntmps171;go_wp2;go_ret;exact ⟨lf HR.out.symm,aQ _ _⟩
 have h3':(s.toList == [46])=false:=by simpa using h3
 clear h3;by_cases h4:(s.toList == [46,46])=true
 ·have HR:Hid (jo s=false):=by rw[jo,Ed,h4,tG,eS,eS,eS];rfl
  go_enter func171,ntmps171;go_wp2;go_ret;exact ⟨lf HR.out.symm,aQ _ _⟩
 have h4':(s.toList == [46,46])=false:=by simpa using h4
 clear h4;have HY:Hid (s.data.toList.all jn=true->jo s=true):=fun h=>by
  rw[OE h,Ec,Ed,h3',h4',show bp s.size 1 14=true from bK (by omega)]
  rfl
 go_enter func171,ntmps171;go_wp2;go_loopw [] (fun w'=>∃ k:Nat,w'=w.iter s k/\k<=s.size/\(s.data.toList.take k).all jn=true) (fun w'=>s.size-w'.iterPos w.heap.size);case atStart=>exact ⟨0,rfl,bh _,rfl⟩
 case round=>
 obtain ⟨k,rfl,hk,hall⟩:=hrel;by_cases hlt:k<s.size
 ·have hc:=s[k].toNat_lt;by_cases ha:s[k].toNat<128
  ·have hnx:∀ ty,(Instr.next (ao w.heap.size 0) true ty).run prog (w.iter s k)=_:=fun ty=>run_next_ascii w s k ty hlt ha;by_cases hd:jn s[k]=true
   ·have HA:Hid ((s.data.toList.take (k+1)).all jn=true):=OD hlt hall hd;have hcase:=OB hd;clear hall hd;rcases hcase with ⟨c1,c2⟩ | ⟨c1,c2⟩ | c1
    ·have g1:((s[k].toNat:Int) != 46)=true:=by simp;omega
     have g2:¬ (s[k].toNat:Int)<48:=by omega
     have g3:57<(s[k].toNat:Int):=by omega
     have g4:¬ (s[k].toNat:Int)<97:=by omega
     have g5:¬ 122<(s[k].toNat:Int):=by omega
     go_wp2;go_roundw;case rel=>exact ⟨k+1,rfl,by omega,HA.out⟩
     case measure=>simp;omega
    ·have g1:((s[k].toNat:Int) != 46)=true:=by simp;omega
     have g2:¬ (s[k].toNat:Int)<48:=by omega
     have g3:¬ 57<(s[k].toNat:Int):=by omega
     go_wp2;go_roundw;case rel=>exact ⟨k+1,rfl,by omega,HA.out⟩
     case measure=>simp;omega
    have g1:((s[k].toNat:Int) != 46)=false:=by simp;omega
    clear c1;go_wp2;go_roundw;case rel=>exact ⟨k+1,rfl,by omega,HA.out⟩
    case measure=>simp;omega
   have hd':jn s[k]=false:=by simpa using hd
   obtain ⟨n1,n2,n3⟩:=OA hd';have HR:Hid (jo s=false):=IA hlt hd';have g1:((s[k].toNat:Int) != 46)=true:=by simp;omega
   clear hall hd hd' n3;by_cases g2:(s[k].toNat:Int)<48
   ·have g3:(s[k].toNat:Int)<97:=by omega
    go_wp2;go_ret;exact ⟨lf HR.out.symm,Bs _ _ _⟩
   have g3:57<(s[k].toNat:Int):=by omega
   by_cases g4:(s[k].toNat:Int)<97
   ·go_wp2;go_ret;exact ⟨lf HR.out.symm,Bs _ _ _⟩
   have g5:122<(s[k].toNat:Int):=by omega
   go_wp2;go_ret;exact ⟨lf HR.out.symm,Bs _ _ _⟩
  have hnx:∀ ty,(Instr.next (ao w.heap.size 0) true ty).run prog (w.iter s k)=_:=fun ty=>run_next_any w s k ty hlt;have hh:=(decode_high s k hlt (by omega)).1;have g1:(((Utf8.decode s k).1:Int) != 46)=true:=by simp;omega
  have g2:¬ ((Utf8.decode s k).1:Int)<48:=by omega
  have g3:57<((Utf8.decode s k).1:Int):=by omega
  have g4:¬ ((Utf8.decode s k).1:Int)<97:=by omega
  have g5:122<((Utf8.decode s k).1:Int):=by omega
  have HR:Hid (jo s=false):=IA hlt (by
   have:∀ c:UInt8,¬ c.toNat<128->jn c=false:=fun c h=>by simp only[jn,Bool.or_eq_false_iff,wI];omega
   exact this _ ha)
  clear hall;go_wp2;go_ret;exact ⟨lf HR.out.symm,Bs _ _ _⟩
 obtain rfl:k=s.size:=by omega
 have hnx:∀ ty,(Instr.next (ao w.heap.size 0) true ty).run prog (w.iter s s.size)=_:=fun ty=>run_next_end w s s.size ty hlt;rw[OC] at hall;have HR:Hid (jo s=true):=HY.out hall;clear hall;go_wp2;go_ret;exact ⟨lf HR.out.symm,Bs _ _ _⟩
theorem ZA (i:Int) (s:ByteArray) (w:World) (hs:s.size<=281474976710656):Calls prog 116 #[.agg #[aa i,.string s]] w (aV (.bool (fm i s)) w):=by
 have hb0:ah w (w.alloc (.cells #[aa i,.string s] 47)):=(aQ _ _).alloc (av _) _;by_cases h1:1<=i
 ·by_cases h2:i<8
  ·have HR:Hid (fm i s=jo s):=by rw[fm,show bp i 1 7=true from bK (by omega),NY];rfl
   go_enter func116,ntmps116;go_wp2_with (go_at_call 171;refine (Zz _ _ hs).mono ?_;rintro e w' ⟨rfl,hb⟩);go_ret;exact ⟨lf HR.out.symm,hb0.trans (hb.mono hb0.size)⟩
  have HR:Hid (fm i s=false):=by rw[fm,show bp i 1 7=false from bA (by omega),eS];rfl
  have h2':decide (i<8)=false:=by simpa using h2
  go_enter func116,ntmps116;go_wp2;go_ret;exact ⟨lf HR.out.symm,hb0⟩
 have HR:Hid (fm i s=false):=by rw[fm,show bp i 1 7=false from bA (by omega),eS];rfl
 have h1':decide (1<=i)=false:=by simpa using h1
 go_enter func116,ntmps116;go_wp2;go_ret;exact ⟨lf HR.out.symm,hb0⟩
def iT (n:Int):ByteArray:=if bp n 0 65535 then ⟨#[UInt8.ofNat (n % 256).toNat,UInt8.ofNat (n / 256).toNat]⟩ else ⟨#[]⟩
theorem OG (n:Int) (h0:0<=n) (h1:n<256):((UInt8.ofNat n.toNat).toNat:Int)=n:=by
 have:n.toNat<256:=by omega
 simp[NZ this];omega
theorem Ef (x y:Int) (hx:0<=x/\x<256) (hy:0<=y/\y<256) (w:World):(convert 22 9 (.slice (some ⟨w.heap.size,0,none⟩) 2 2)).run prog (w.alloc (.cells #[.int .u8 x,.int .u8 y] 5))=.ok (.string ⟨#[UInt8.ofNat x.toNat,UInt8.ofNat y.toNat]⟩) (w.alloc (.cells #[.int .u8 x,.int .u8 y] 5)):=
 tM _ 22 9 5 _ 0 2 [UInt8.ofNat x.toNat,UInt8.ofNat y.toNat] underlying22 underlying5 underlying9
  (Iz _ _ _ _ _ fun j hj=>by
   match j,hj with
   | 0,_=>simp only[dK,OG x hx.1 hx.2];rfl
   | 1,_=>simp only[eT,dK,OG y hy.1 hy.2];rfl) 2 rfl
theorem OH (n:Int) (w:World):Calls prog 119 #[aa n] w (aV (.string (iT n)) w):=by
 by_cases h:bp n 0 65535=true
 ·have e:iT n=⟨#[UInt8.ofNat (n % 256).toNat,UInt8.ofNat (n / 256).toNat]⟩:=by rw[iT,h];rfl
  rw[e];obtain ⟨h1,h2⟩:=pN h;have hc:=Ef (n % 256) (n / 256) (by omega) (by omega);go_enter func119,ntmps119;go_wp2_with (go_at_call 78;refine (fb _ _ _ _).mono ?_;rintro e w' ⟨rfl,rfl⟩);go_ret;exact ⟨rfl,by go_grown⟩
 have h':bp n 0 65535=false:=by simpa using h
 have e:iT n=⟨#[]⟩:=by rw[iT,h'];rfl
 rw[e];go_enter func119,ntmps119;go_wp2_with (go_at_call 78;refine (fb _ _ _ _).mono ?_;rintro e w' ⟨rfl,rfl⟩);go_ret;exact ⟨rfl,aQ _ _⟩
theorem ZB (n:Int) (w:World):Calls prog 91 #[aa n] w (aV (.string (iT n)) w):=by
 by_cases h1:n<0
 ·have e:iT n=⟨#[]⟩:=by rw[iT,show bp n 0 65535=false from bA (by omega)];rfl
  rw[e];go_enter func91,ntmps91;go_wp2;go_ret;exact ⟨rfl,aQ _ _⟩
 by_cases h2:65535<n
 ·have e:iT n=⟨#[]⟩:=by rw[iT,show bp n 0 65535=false from bA (by omega)];rfl
  rw[e];go_enter func91,ntmps91;go_wp2;go_ret;exact ⟨rfl,aQ _ _⟩
 have e:iT n=⟨#[UInt8.ofNat (n % 256).toNat,UInt8.ofNat (n / 256).toNat]⟩:=by rw[iT,show bp n 0 65535=true from bK (by omega)];rfl
 rw[e];have hc:=Ef (n % 256) (n / 256) (by omega) (by omega);go_enter func91,ntmps91;go_wp2;go_ret;exact ⟨rfl,by go_grown⟩
section
theorem Eg {a b:ByteArray} (h:a=b):Ending.returned (.string a)=.returned (.string b):=by rw[h]
structure jN (B:Nat) (w:World) (i:Int) (s:ByteArray) (W:World):Prop where
 c0:W.cell? ⟨B,0,none⟩=some (.int .i64 i)
 c1:W.cell? ⟨B,1,none⟩=some (.string s)
 lt:B<W.heap.size
 au:Below B w W
variable {B : Nat} {w W W' : World} {i : Int} {s : ByteArray}
theorem jN.below (h:jN B w i s W) (hb:ah W W'):jN B w i s W':=⟨(hb.cell (p:=⟨B,0,none⟩) h.lt).trans h.c0,(hb.cell (p:=⟨B,1,none⟩) h.lt).trans h.c1,cv h.lt hb.size,h.au.trans (hb.mono (pJ h.lt))⟩
theorem jN.alloc (h:jN B w i s W) (o:Obj):jN B w i s (W.alloc o):=h.below ((aQ _ _).alloc (av _) o)
theorem jN.drew (h:jN B w i s W):jN B w i s W.drew:=⟨h.c0,h.c1,h.lt,h.au.drew⟩
theorem Eh (i:Int) (s:ByteArray) (w:World) (T:TypeId):jN w.heap.size w i s (w.alloc (.cells #[aa i,.string s] T)):=by refine ⟨?_,?_,?_,?_⟩;all_goals first | exact (aQ _ _).alloc (av _) _ | (simp[go_sem];done) | (simp;done)
theorem OI (hs:s.size<=281474976710656) (h:jN B w i s W):Calls prog 174 #[.agg #[aa i,.string s]] W fun e w'=>e=.returned (.bool (fm i s))/\jN B w i s w':=(Zy i s W hs).mono fun _ _ ⟨he,hb⟩=>⟨he,hb ▸ h.alloc _⟩
theorem IC (hs:s.size<=281474976710656) (h:jN B w i s W):Calls prog 116 #[.agg #[aa i,.string s]] W fun e w'=>e=.returned (.bool (fm i s))/\jN B w i s w':=(ZA i s W hs).mono fun _ _ ⟨he,hb⟩=>⟨he,h.below hb⟩
theorem ZD (n:Int) (h:jN B w i s W):Calls prog 42 #[aa n] W fun e w'=>e=.returned (.string (bG n))/\jN B w i s w':=(wR n W).mono fun _ _ ⟨he,hb⟩=>⟨he,h.below hb⟩
theorem ZE (a:ByteArray) (k:Int) (t:ByteArray) (hs:a.size<=281474976710656) (ht:t.size<=281474976710656) (h:jN B w i s W):Calls prog 41 #[.string a,aa k,.string t] W fun e w'=>e=.returned (.string (bs a k t))/\jN B w i s w':=(uY a k t W hs ht).mono fun _ _ ⟨he,hb⟩=>⟨he,h.below hb⟩
theorem OJ (hi:1<=i/\i<=7) (hs:s.size<=14):(⟨#[UInt8.ofNat i.toNat,UInt8.ofNat ((s.size:Int)).toNat]⟩:ByteArray)++s=Bp i s:=by rw[Bp,YQ]
set_option maxRecDepth 4000 in
theorem Bu (i:Int) (s:ByteArray) (w:World) (hs:s.size<=281474976710656):Calls prog 120 #[.agg #[aa i,.string s]] w (aV (.string (fY i s)) w):=by
 have h0:=Eh i s w 47;by_cases hok:fm i s=true
 ·obtain ⟨hn,hi⟩:=Ee hok;have hz:=IB hn;have hc:=Ef i (s.size:Int) (by omega) (by omega);obtain ⟨X,hX⟩:∃ X:ByteArray,X=⟨#[UInt8.ofNat i.toNat,UInt8.ofNat ((s.size:Int)).toNat]⟩:=⟨_,rfl⟩;have yN:X.size=2:=by rw[hX];rfl
  have HP:Hid (fY i s=(X++s)++bG (16-((X.size:Int)+(s.size:Int)))):=by rw[fY,aN hok,yN,hX,OJ hi hz.2,bG,aN (by omega),show (16-(((2:Nat):Int)+(s.size:Int))).toNat=14-s.size by omega];rfl
  have z1:X.size+s.size<=9223372036854775807:=by omega
  have z2:(X.size:Int)+(s.size:Int)<=16:=by omega
  have z3:X.size+s.size+(bG (16-((X.size:Int)+(s.size:Int)))).size<=9223372036854775807:=by rw[bG,aN (by omega),sw];omega
  rw[<- hX] at hc;clear hX yN;go_enter func120,ntmps120;go_wp2_with (first
   | (go_at_call 174;refine (OI hs h0).mono ?_;rintro e w1 ⟨rfl,h1⟩;have c0:=h1.c0;have c1:=h1.c1;have h1a:=h1.alloc (.cells #[.int .u8 i,.int .u8 (s.size:Int)] 5);have d0:=h1a.c0;have d1:=h1a.c1)
   | (go_at_call 90;refine (wQ _ _).mono ?_;rintro e w2 ⟨rfl,rfl⟩))
  go_ret;exact ⟨Eg HP.out.symm,h1a.au⟩
 have hok':fm i s=false:=by simpa using hok
 have HP:Hid (fY i s=⟨#[]⟩):=by rw[fY,aM hok];rfl
 go_enter func120,ntmps120;go_wp2_with (go_at_call 174;refine (OI hs h0).mono ?_;rintro e w1 ⟨rfl,h1⟩);go_ret;exact ⟨Eg HP.out.symm,h1.au⟩
set_option maxRecDepth 4000 in
theorem ID (i:Int) (s:ByteArray) (w:World) (hs:s.size<=281474976710656):Calls prog 115 #[.agg #[aa i,.string s]] w (aV (.string (fY i s)) w):=by
 have h0:=Eh i s w 47;by_cases hok:fm i s=true
 ·obtain ⟨hn,hi⟩:=Ee hok;have hz:=IB hn;have hc:=Ef i (s.size:Int) (by omega) (by omega);obtain ⟨X,hX⟩:∃ X:ByteArray,X=⟨#[UInt8.ofNat i.toNat,UInt8.ofNat ((s.size:Int)).toNat]⟩:=⟨_,rfl⟩;have yN:X.size=2:=by rw[hX];rfl
  have z2:(X++s).size=2+s.size:=by rw[ke,yN]
  have HP:Hid (fY i s=bs (bG 16) 0 (X++s)):=by
   rw[fY,aN hok,bG,aN (by decide),show ((16:Int)).toNat=16 from rfl,OF _ 16 (by omega),z2,hX,OJ hi hz.2,show 16-(2+s.size)=14-s.size by omega]
   rfl
  have z1:X.size+s.size<=9223372036854775807:=by omega
  have z4:(X++s).size<=281474976710656:=by omega
  have z5:(bG 16).size<=281474976710656:=by decide
  rw[<- hX] at hc;clear hX yN z2;go_enter func115,ntmps115;go_wp2_with (go_at_call 116;refine (IC hs h0).mono ?_;rintro e w1 ⟨rfl,h1⟩;have c0:=h1.c0;have c1:=h1.c1;have h1a:=h1.alloc (.cells #[.int .u8 i,.int .u8 (s.size:Int)] 5);have d0:=h1a.c0;have d1:=h1a.c1;have h1d:=h1a.drew);go_region_with (first
   | (go_at_call 42;refine (ZD _ (by assumption)).mono ?_;rintro e w4 ⟨rfl,h4⟩;have x0:=h4.c0;have x1:=h4.c1)
   | (go_at_call 41;refine (ZE _ _ _ z5 z4 (by assumption)).mono ?_;rintro e w5 ⟨rfl,h5⟩))
  all_goals
   go_wp2;go_ret;exact ⟨Eg HP.out.symm,h5.au⟩
 have hok':fm i s=false:=by simpa using hok
 have HP:Hid (fY i s=⟨#[]⟩):=by rw[fY,aM hok];rfl
 go_enter func115,ntmps115;go_wp2_with (go_at_call 116;refine (IC hs h0).mono ?_;rintro e w1 ⟨rfl,h1⟩);go_ret;exact ⟨Eg HP.out.symm,h1.au⟩
end
abbrev aB:=Int × ByteArray
def tN (o e:aB):Bool:=(o.2.toList == e.2.toList) || (o.1 == e.1)
def jD (es:List aB) (e:aB):Bool:=es.any fun o=>tN o e
def bl (es:List aB) (k:Nat):aB:=es.getD k (0,⟨#[]⟩)
theorem mQ (es:List aB) (k:Nat) (h:k<es.length):bl es k=es[k]:=by simp[bl,List.getD,h]
theorem OK (es:List aB) (k:Nat) (e:aB) (h:k<es.length):jD (es.take (k+1)) e=(jD (es.take k) e || tN (bl es k) e):=by rw[jD,jD,mq h,List.any_append,mQ es k h];simp
theorem OL {es:List aB} {k n:Nat} {e:aB} (hk:k<n) (hn:n<=es.length) (h:tN (bl es k) e=true):jD (es.take n) e=true:=by rw[jD,Bd];refine ⟨bl es k,?_,h⟩;rw[mQ es k (by omega)];exact yQ.2 ⟨k,by simp;omega,by simp⟩
def qM (es:List aB) (i:Nat):Bool:=fm (bl es i).1 (bl es i).2 && !(jD (es.take i) (bl es i))
def nG (es:List aB) (k:Nat):Bool:=(List.range k).all (qM es)
def fZ (es:List aB):Bool:=decide (es.length<=12) && nG es es.length
theorem OM (es:List aB) (k:Nat):nG es (k+1)=(nG es k && qM es k):=by simp[nG,yR]
theorem ON {es:List aB} {k n:Nat} (hk:k<n) (h:qM es k=false):nG es n=false:=by rw[nG,YP];exact ⟨k,kY.2 hk,by rw[h];decide⟩
theorem IE {es:List aB} {k:Nat} (hk:k<es.length) (h:qM es k=false):fZ es=false:=by rw[fZ,ON hk h,eS]
def jE (es:List aB):Nat->ByteArray
 | 0=>⟨#[]⟩
 | k+1=>jE es k++fY (bl es k).1 (bl es k).2
def dS (es:List aB):ByteArray:=if fZ es then jE es es.length else ⟨#[]⟩
theorem Ei {i:Int} {s:ByteArray} (h:fm i s=true):(fY i s).size=16:=by have:=IB (Ee h).1;rw[fY,aN h,ke,Zv,sw];omega
theorem Ej {es:List aB} {k:Nat} (h:qM es k=true):fm (bl es k).1 (bl es k).2=true/\jD (es.take k) (bl es k)=false:=by simp only[qM,ca,oy] at h;exact h
theorem Ek {es:List aB} {n k:Nat} (h:nG es n=true) (hk:k<n):qM es k=true:=by
 cases hb:qM es k with
 | true=>rfl
 | false=>rw[ON hk hb] at h;cases h
theorem El {es:List aB} {n:Nat} (h:nG es n=true):∀ k,k<=n->(jE es k).size=16*k
 | 0,_=>rfl
 | k+1,hk=>by rw[jE,ke,El h k (by omega),Ei (Ej (Ek h (by omega:k<n))).1];omega
def cW (W:World) (a:Option Addr) (es:List aB):Prop:=es=[]\/∃ b off,a=some ⟨b,off,none⟩/\b<W.heap.size/\∀ j,j<es.length->W.cell? ⟨b,off+j*2,none⟩=some (.int .i64 (bl es j).1)/\W.cell? ⟨b,off+j*2+1,none⟩=some (.string (bl es j).2)
theorem cW.below {W W':World} {a:Option Addr} {es:List aB} (h:cW W a es) (hb:ah W W'):cW W' a es:=by
 rcases h with h | ⟨b,off,ha,hlt,hc⟩;·exact Or.inl h
 exact Or.inr ⟨b,off,ha,cv hlt hb.size,fun j hj=>⟨(hb.cell (p:=⟨b,off+j*2,none⟩) hlt).trans (hc j hj).1,(hb.cell (p:=⟨b,off+j*2+1,none⟩) hlt).trans (hc j hj).2⟩⟩
theorem cW.get {W:World} {a:Option Addr} {es:List aB} {k:Nat} (h:cW W a es) (hk:k<es.length):∃ b off,a=some ⟨b,off,none⟩/\b<W.heap.size/\∀ j,j<es.length->ad W b (off+j*2) (aa (bl es j).1)/\ad W b (off+j*2+1) (.string (bl es j).2):=by
 rcases h with h | h
 ·subst h;simp at hk
 exact h
def pO (es:List aB):Prop:=∀ j,j<es.length->(bl es j).2.size<=281474976710656
end Go.Proofs.YtgpfmgaidbjcpaaGreatDoor
namespace Go.Proofs
open Go.Shelf
def Tryz.laysM316_ren:Go.Shelf.Ren:=⟨fun | 316=>39 | n=>n,fun | 9=>9 | 3=>3 | 4=>4 | 37=>22 | 0=>0 | 127=>123 | 5=>5 | n=>n,fun | n=>n⟩
theorem Tryz.laysM316:Go.Proofs.LaysM.n316 Tryz.prog Tryz.laysM316_ren:={
 mixed:=by kernel_rfl
 f316:=Tryz.func39.trans (congrArg some (by kernel_rfl))
 t0:=Tryz.underlying0
 a0:=Tryz.isAgg0
 z0:=Tryz.sizeOf0
 v0:=Tryz.zeroValue0
 t3:=Tryz.underlying3
 a3:=Tryz.isAgg3
 z3:=Tryz.sizeOf3
 v3:=Tryz.zeroValue3
 t4:=Tryz.underlying4
 a4:=Tryz.isAgg4
 z4:=Tryz.sizeOf4
 v4:=Tryz.zeroValue4
 t9:=Tryz.underlying9
 a9:=Tryz.isAgg9
 z9:=Tryz.sizeOf9
 v9:=Tryz.zeroValue9
 t37:=Tryz.underlying22
 a37:=Tryz.isAgg22
 z37:=Tryz.sizeOf22
 v37:=Tryz.zeroValue22
 t127:=Tryz.underlying123
 a127:=Tryz.isAgg123
 z127:=Tryz.sizeOf123
 v127:=Tryz.zeroValue123
 t5:=Tryz.underlying5
 a5:=Tryz.isAgg5
 z5:=Tryz.sizeOf5
 v5:=Tryz.zeroValue5
 i0:=by kernel_rfl
 i3:=by kernel_rfl
 i4:=by kernel_rfl
 i5:=by kernel_rfl
 i9:=by kernel_rfl
 i37:=by kernel_rfl
 i127:=by kernel_rfl }
open Go.RowKit in
theorem Tryz.stringslite_Clone (s:ByteArray) (w:World) (hlim:s.size<=281474976710656):Calls Tryz.prog 39 #[.string s] w fun e w'=>e=.returned (.string s)/\Below w.heap.size w w':=Any.stringslite_Clone Tryz.laysM316 s w hlim
def Tryz.lays107_ren:Go.Shelf.Ren:=⟨fun | 107=>141 | 108=>190 | n=>n,fun | 28=>29 | 3=>3 | 4=>4 | 0=>0 | n=>n,fun | n=>n⟩
theorem Tryz.lays107:Go.Proofs.Lays.n107 Tryz.prog Tryz.lays107_ren:={
 mixed:=by kernel_rfl
 f107:=Tryz.func141.trans (congrArg some (by kernel_rfl))
 f108:=Tryz.func190.trans (congrArg some (by kernel_rfl))
 t0:=Tryz.underlying0
 a0:=Tryz.isAgg0
 z0:=Tryz.sizeOf0
 v0:=Tryz.zeroValue0
 t3:=Tryz.underlying3
 a3:=Tryz.isAgg3
 z3:=Tryz.sizeOf3
 v3:=Tryz.zeroValue3
 t4:=Tryz.underlying4
 a4:=Tryz.isAgg4
 z4:=Tryz.sizeOf4
 v4:=Tryz.zeroValue4
 t28:=Tryz.underlying29
 a28:=Tryz.isAgg29
 z28:=Tryz.sizeOf29
 v28:=Tryz.zeroValue29 }
open Go.Lib in
theorem Tryz.slices_Contains_int (b off n c:Nat) (zs:List Int) (x:Int) (w:World) (hz:n<=zs.length) (hbig:n<=9223372036854775807) (hc:∀ j,j<zs.length->w.cell? ⟨b,off+j,none⟩=some (.int .i64 (zs.getD j 0))):Calls Tryz.prog 141 #[.slice (some ⟨b,off,none⟩) n c,.int .i64 x] w fun e w'=>e=.returned (.bool ((zs.take n).contains x))/\w'=w:=Any.slices_Contains_int Tryz.lays107 b off n c zs x w hz hbig hc
open Go.Lib in
theorem Tryz.slices_Contains_int_empty (a:Option Addr) (c:Nat) (x:Int) (w:World):Calls Tryz.prog 141 #[.slice a 0 c,.int .i64 x] w fun e w'=>e=.returned (.bool false)/\w'=w:=Any.slices_Contains_int_empty Tryz.lays107 a c x w
def Tryz.laysNm215_ren:Go.Shelf.Ren:=⟨fun | 15=>93 | n=>n,fun | 22=>29 | 3=>3 | 4=>4 | n=>n,fun | n=>n⟩
theorem Tryz.laysNm215:Go.Proofs.Lays2.n15 Tryz.prog Tryz.laysNm215_ren:={
 mixed:=by kernel_rfl
 f15:=Tryz.func93.trans (congrArg some (by kernel_rfl))
 t3:=Tryz.underlying3
 a3:=Tryz.isAgg3
 z3:=Tryz.sizeOf3
 v3:=Tryz.zeroValue3
 t4:=Tryz.underlying4
 a4:=Tryz.isAgg4
 z4:=Tryz.sizeOf4
 v4:=Tryz.zeroValue4
 t22:=Tryz.underlying29
 a22:=Tryz.isAgg29
 z22:=Tryz.sizeOf29
 v22:=Tryz.zeroValue29
 i3:=by kernel_rfl }
open Go.RowKit Go.Lib in
theorem Tryz.slices_Clone_int (b off n c:Nat) (zs:List Int) (w:World) (hz:n<=zs.length) (hbig:n*8<=140737488355328) (hc:∀ j,j<zs.length->w.cell? ⟨b,off+j,none⟩=some (.int .i64 (zs.getD j 0))):Calls Tryz.prog 93 #[.slice (some ⟨b,off,none⟩) n c] w fun e w'=>∃ v',e=.returned v'/\w'.ownsRow w.heap.size 3 1 v' n ((zs.take n).map (Value.int .i64))/\v' ≠ .slice none 0 0/\Below w.heap.size w w':=Any.slices_Clone_int Tryz.laysNm215 b off n c zs w hz hbig hc
def Tryz.laysNm220_ren:Go.Shelf.Ren:=⟨fun | 20=>188 | n=>n,fun | 22=>29 | 3=>3 | 4=>4 | 0=>0 | n=>n,fun | n=>n⟩
theorem Tryz.laysNm220:Go.Proofs.Lays2.n20 Tryz.prog Tryz.laysNm220_ren:={
 mixed:=by kernel_rfl
 f20:=Tryz.func188.trans (congrArg some (by kernel_rfl))
 t0:=Tryz.underlying0
 a0:=Tryz.isAgg0
 z0:=Tryz.sizeOf0
 v0:=Tryz.zeroValue0
 t3:=Tryz.underlying3
 a3:=Tryz.isAgg3
 z3:=Tryz.sizeOf3
 v3:=Tryz.zeroValue3
 t4:=Tryz.underlying4
 a4:=Tryz.isAgg4
 z4:=Tryz.sizeOf4
 v4:=Tryz.zeroValue4
 t22:=Tryz.underlying29
 a22:=Tryz.isAgg29
 z22:=Tryz.sizeOf29
 v22:=Tryz.zeroValue29
 i3:=by kernel_rfl }
open Go.RowKit Go.Lib Go.Sort in
theorem Tryz.slices_Compact_int (blk off cap:Nat) (zs:List Int) (w:World) (hH:Holds (Value.int .i64) w blk off zs.toArray) (hsz:zs.length<=9223372036854775807) (hcap:zs.length<=cap):Calls Tryz.prog 188 #[.slice (some ⟨blk,off,none⟩) zs.length cap] w fun e w'=>e=.returned (.slice (some ⟨blk,off,none⟩) (Lib.compact zs).length cap)/\∃ q,w'=putRow (Value.int .i64) (Sort.ahead w q) blk off (Lib.compact zs++List.replicate (zs.length-(Lib.compact zs).length) 0).toArray:=Any.slices_Compact_int Tryz.laysNm220 blk off cap zs w hH hsz hcap
end Go.Proofs
namespace Go.Proofs.YtgpfmgaidbjcpaaGreatDoor
open ChangeShapes WideShapes ChangeAt RowKit
open Go.Proofs.Tryz
theorem ze (s:ByteArray) (w:World) (hs:s.size<=281474976710656):Calls prog 21 #[.string s] w (aV (.string s) w):=by go_enter func21,ntmps21;go_wp2_with (go_at_call 39;refine (Tryz.stringslite_Clone _ _ hs).mono ?_;rintro e w' ⟨rfl,hb⟩);go_ret;exact ⟨rfl,hb⟩
theorem nH (s:ByteArray) (i n:Int):(aX s i n).size<=s.size:=by
 unfold aX;split;·simp only[pH];omega
 exact bh _
theorem lM (s:ByteArray) (i n:Int) (w:World) (hs:s.size<=281474976710656):Calls prog 16 #[.string s,aa i,aa n] w (aV (.string (aX s i n)) w):=by
 have hs':s.size<=maxLen:=by unfold maxLen;omega
 have hz:=nH s i n;by_cases h:dq s.size i n=true
 ·have e:aX s i n=s.extract i.toNat (i+n).toNat:=by rw[aX,h];rfl
  rw[e] at hz ⊢;obtain ⟨h1,h2,h3⟩:=su h;have h5:i<=i+n:=by omega
  have h6:i+n<=(s.size:Int):=by omega
  go_enter func16,ntmps16;go_wp2_with (first | (go_at_call 37;refine (pL _ _ _ _ hs').mono ?_;rintro e w' ⟨rfl,rfl⟩) | (go_at_call 21;refine (ze _ _ (by omega)).mono ?_;rintro e w' ⟨rfl,hb⟩));go_ret;exact ⟨rfl,hb⟩
 have h':dq s.size i n=false:=by simpa using h
 have e:aX s i n=⟨#[]⟩:=by rw[aX,h'];rfl
 rw[e];go_enter func16,ntmps16;go_wp2_with (go_at_call 37;refine (pL _ _ _ _ hs').mono ?_;rintro e w' ⟨rfl,rfl⟩);go_ret;exact ⟨rfl,aQ _ _⟩
def wS (s:ByteArray):Int:=aW s 0
def wT (s:ByteArray):ByteArray:=aX s 2 (aW s 1)
def ig (s:ByteArray):Bool:=decide (s.size=16) && ((fY (wS s) (wT s)).toList == s.toList)
def kF (s:ByteArray):Int:=if ig s then wS s else 0
def jO (s:ByteArray):ByteArray:=if ig s then wT s else ⟨#[]⟩
def oA (s:ByteArray):Value:=.tuple #[.agg #[.int .i64 (kF s),.string (jO s)],.bool (ig s)]
theorem IF (n:Int) (h0 : -9223372036854775808<=n) (h1:n<=9223372036854775807):(Lit.int .i64 n).wf=true:=by simp[Lit.wf,IntKind.min,IntKind.max,IntKind.signed,IntKind.bits];omega
theorem OO (s:ByteArray) (i:Int):0<=aW s i/\aW s i<256:=by
 unfold aW;split
 ·rename_i h;have:=(s[i.toNat]'(by omega)).toNat_lt;omega
 omega
theorem Em {s:ByteArray} (h:ig s=false):oA s=.tuple #[.agg #[aa 0,.string ⟨#[]⟩],.bool false]:=by simp[oA,kF,jO,h]
theorem OP {s:ByteArray} (h:ig s=true):oA s=.tuple #[.agg #[aa (wS s),.string (wT s)],.bool true]:=by simp[oA,kF,jO,h]
structure Bv (w:World) (B:Nat) (a:Int) (b:ByteArray) (W:World):Prop where
 n:az w.heap.size [.int .i64 0,.string ⟨#[]⟩] W
 m:az B [.int .i64 a,.string b] W
 ne:w.heap.size<B
 au:ah w W
theorem Bv.below {w W W':World} {B:Nat} {a:Int} {b:ByteArray} (h:Bv w B a b W) (hb:ah W W'):Bv w B a b W':=⟨h.n.below hb,h.m.below hb,h.ne,h.au.trans (hb.mono (pJ h.n.lt))⟩
theorem IG (w w1:World) (a:Int) (b:ByteArray) (h:ah (w.alloc (.cells #[aa 0,.string ⟨#[]⟩] 47)) w1):Bv w w1.heap.size a b (w1.alloc (.cells #[aa a,.string b] 47)):=by have hs:=h.size;simp at hs;exact ⟨((aY [aa 0,.string ⟨#[]⟩] w 47).below h).alloc _,aY [aa a,.string b] w1 47,by omega,(((aQ _ _).alloc (av _) _).trans (h.mono (by simp))).alloc (by omega) _⟩
theorem ZF (w:World) (a:Int) (b:ByteArray):Bv w (w.heap.size+1) a b ((w.alloc (.cells #[aa 0,.string ⟨#[]⟩] 47)).alloc (.cells #[aa a,.string b] 47)):=by have h:=IG w _ a b (aQ _ _);simpa using h
theorem zg {v u:Value} (h:v=u):Ending.returned v=.returned u:=by rw[h]
theorem ZG (s:ByteArray) (w:World) (hs:s.size<=281474976710656):Calls prog 247 #[.string s] w (aV (oA s) w):=by
 have hm:s.size<=maxLen:=by unfold maxLen;omega
 have k0:=OO s 0;have k1:=OO s 1;have hn:(aX s 2 (aW s 1)).size<=281474976710656:=by have:=nH s 2 (aW s 1);omega
 have v2:(Lit.int .i64 2).wf=true:=by decide
 have v1:=IF (aW s 1) (by omega) (by omega);have t1:=ZF w (aW s 0) (aX s 2 (aW s 1));by_cases h16:s.size=16
 ·have g16:((s.size:Int) != 16)=false:=by simp;omega
  by_cases hP:((fY (aW s 0) (aX s 2 (aW s 1))).toList == s.toList)=true
  ·have HR:Hid (oA s=.tuple #[.agg #[aa (aW s 0),.string (aX s 2 (aW s 1))],.bool true]):=OP (by rw[ig,wS,wT,hP,bK h16];rfl);go_enter func247,ntmps247;go_wp2_with (first
    | (go_at_call 181;refine (Bm _ _ _ hm).mono ?_;rintro e w' ⟨rfl,rfl⟩)
    | (go_at_call 12;refine (pM _ _ _ _ hm v2 v1).mono ?_;rintro e w' ⟨rfl,rfl⟩)
    | (go_at_call 120;refine (Bu _ _ _ hn).mono ?_;rintro e w2 ⟨rfl,b2⟩;have t2:=t1.below b2;have c0:=t2.n.c0;have c1:=t2.n.c1;have f0:=t2.n.f0;have f1:=t2.n.f1;have d0:=t2.m.c0;have d1:=t2.m.c1))
   have q:=t2.n.vX (aa (aW s 0)) (.string (aX s 2 (aW s 1)));exact bF (v:=.tuple #[.agg #[aa (aW s 0),.string (aX s 2 (aW s 1))],.bool true]) (by simp[results,results247,go_sem,q.c0,q.c1]) rfl
    ⟨zg HR.out.symm,(t2.au.setCell (p:=⟨w.heap.size,0,none⟩) (av _) _).setCell (p:=⟨w.heap.size,1,none⟩) (av _) _⟩
  have hP':((fY (aW s 0) (aX s 2 (aW s 1))).toList == s.toList)=false:=by simpa using hP
  have HR:Hid (oA s=.tuple #[.agg #[aa 0,.string ⟨#[]⟩],.bool false]):=Em (by rw[ig,wS,wT,hP',eS]);clear hP;go_enter func247,ntmps247;go_wp2_with (first
   | (go_at_call 181;refine (Bm _ _ _ hm).mono ?_;rintro e w' ⟨rfl,rfl⟩)
   | (go_at_call 12;refine (pM _ _ _ _ hm v2 v1).mono ?_;rintro e w' ⟨rfl,rfl⟩)
   | (go_at_call 120;refine (Bu _ _ _ hn).mono ?_;rintro e w2 ⟨rfl,b2⟩;have t2:=t1.below b2;have c0:=t2.n.c0;have c1:=t2.n.c1;have f0:=t2.n.f0;have f1:=t2.n.f1;have d0:=t2.m.c0;have d1:=t2.m.c1))
  have q:=t2.n.vX (aa 0) (.string ⟨#[]⟩);exact bF (v:=.tuple #[.agg #[aa 0,.string ⟨#[]⟩],.bool false]) (by simp[results,results247,go_sem,q.c0,q.c1]) rfl
   ⟨zg HR.out.symm,(t2.au.setCell (p:=⟨w.heap.size,0,none⟩) (av _) _).setCell (p:=⟨w.heap.size,1,none⟩) (av _) _⟩
 have g16:((s.size:Int) != 16)=true:=by simp;omega
 have HR:Hid (oA s=.tuple #[.agg #[aa 0,.string ⟨#[]⟩],.bool false]):=Em (by rw[ig,bA h16,dC]);have c0:=t1.n.c0;have c1:=t1.n.c1;have q:=t1.n.vX (aa 0) (.string ⟨#[]⟩);go_enter func247,ntmps247;go_wp2_with (first
  | (go_at_call 181;refine (Bm _ _ _ hm).mono ?_;rintro e w' ⟨rfl,rfl⟩)
  | (go_at_call 12;refine (pM _ _ _ _ hm v2 v1).mono ?_;rintro e w' ⟨rfl,rfl⟩))
 refine bF (v:=.tuple #[.agg #[aa 0,.string ⟨#[]⟩],.bool false]) (by simp[results,results247,go_sem,q.c0,q.c1]) rfl
  ⟨zg HR.out.symm,?_⟩
 go_grown
theorem ZH (s:ByteArray) (w:World) (hs:s.size<=281474976710656):Calls prog 67 #[.string s] w (aV (oA s) w):=by
 have hm:s.size<=maxLen:=by unfold maxLen;omega
 have hn:(aX s 2 (aW s 1)).size<=281474976710656:=by have:=nH s 2 (aW s 1);omega
 by_cases h16:s.size=16
 ·have g16:((s.size:Int) != 16)=false:=by simp;omega
  by_cases hP:((fY (aW s 0) (aX s 2 (aW s 1))).toList == s.toList)=true
  ·have HR:Hid (oA s=.tuple #[.agg #[aa (aW s 0),.string (aX s 2 (aW s 1))],.bool true]):=OP (by rw[ig,wS,wT,hP,bK h16];rfl);go_enter func67,ntmps67;go_wp2_with (first
    | (go_at_call 32;refine (zd _ _ _ hm).mono ?_;rintro e w' ⟨rfl,rfl⟩)
    | (go_at_call 16;refine (lM _ _ _ _ hs).mono ?_;rintro e w1 ⟨rfl,b1⟩;have t1:=IG w w1 (aW s 0) (aX s 2 (aW s 1)) b1)
    | (go_at_call 115;refine (ID _ _ _ hn).mono ?_;rintro e w2 ⟨rfl,b2⟩;have t2:=t1.below b2;have c0:=t2.n.c0;have c1:=t2.n.c1;have f0:=t2.n.f0;have f1:=t2.n.f1;have d0:=t2.m.c0;have d1:=t2.m.c1))
   have q:=t2.n.vX (aa (aW s 0)) (.string (aX s 2 (aW s 1)));exact bF (v:=.tuple #[.agg #[aa (aW s 0),.string (aX s 2 (aW s 1))],.bool true]) (by simp[results,results67,go_sem,q.c0,q.c1]) rfl
    ⟨zg HR.out.symm,(t2.au.setCell (p:=⟨w.heap.size,0,none⟩) (av _) _).setCell (p:=⟨w.heap.size,1,none⟩) (av _) _⟩
  have hP':((fY (aW s 0) (aX s 2 (aW s 1))).toList == s.toList)=false:=by simpa using hP
  have HR:Hid (oA s=.tuple #[.agg #[aa 0,.string ⟨#[]⟩],.bool false]):=Em (by rw[ig,wS,wT,hP',eS]);clear hP;go_enter func67,ntmps67;go_wp2_with (first
   | (go_at_call 32;refine (zd _ _ _ hm).mono ?_;rintro e w' ⟨rfl,rfl⟩)
   | (go_at_call 16;refine (lM _ _ _ _ hs).mono ?_;rintro e w1 ⟨rfl,b1⟩;have t1:=IG w w1 (aW s 0) (aX s 2 (aW s 1)) b1)
   | (go_at_call 115;refine (ID _ _ _ hn).mono ?_;rintro e w2 ⟨rfl,b2⟩;have t2:=t1.below b2;have c0:=t2.n.c0;have c1:=t2.n.c1;have f0:=t2.n.f0;have f1:=t2.n.f1;have d0:=t2.m.c0;have d1:=t2.m.c1))
  have q:=t2.n.vX (aa 0) (.string ⟨#[]⟩);exact bF (v:=.tuple #[.agg #[aa 0,.string ⟨#[]⟩],.bool false]) (by simp[results,results67,go_sem,q.c0,q.c1]) rfl
   ⟨zg HR.out.symm,(t2.au.setCell (p:=⟨w.heap.size,0,none⟩) (av _) _).setCell (p:=⟨w.heap.size,1,none⟩) (av _) _⟩
 have g16:((s.size:Int) != 16)=true:=by simp;omega
 have HR:Hid (oA s=.tuple #[.agg #[aa 0,.string ⟨#[]⟩],.bool false]):=Em (by rw[ig,bA h16,dC]);go_enter func67,ntmps67;go_wp2;refine bF (v:=.tuple #[.agg #[aa 0,.string ⟨#[]⟩],.bool false]) (by simp[results,results67,go_sem]) rfl
  ⟨zg HR.out.symm,?_⟩
 go_grown
def bC (l:List Int) (x:Int):Bool:=l.contains x
def pP (zs:List Int) (i:Nat):Bool:=bp (zs.getD i 0) 5 23 && !(bC (zs.take i) (zs.getD i 0))
def sy (zs:List Int) (k:Nat):Bool:=(List.range k).all (pP zs)
def eE (zs:List Int):Bool:=sy zs zs.length
theorem OQ (zs:List Int) (k:Nat):sy zs (k+1)=(sy zs k && pP zs k):=by simp[sy,yR]
theorem zh {zs:List Int} {k n:Nat} (hk:k<n) (h:pP zs k=false):sy zs n=false:=by rw[sy,YP];exact ⟨k,kY.2 hk,by rw[h];decide⟩
theorem fq (zs:List Int) (k:Nat) (h:k<zs.length):zs.getD k 0=zs[k]:=by simp[List.getD,h]
theorem ZI (zs:List Int) (k:Nat) (x:Int) (h:k<zs.length):bC (zs.take (k+1)) x=(bC (zs.take k) x || x == zs.getD k 0):=by unfold bC;rw[mq h,al8,al8,List.any_append,fq _ _ h];simp
theorem IH {zs:List Int} {k n:Nat} (hk:k<n) (hn:n<=zs.length):bC (zs.take n) (zs.getD k 0)=true:=by unfold bC;rw[List.contains_iff_mem];rw[fq _ _ (by omega)];exact yQ.2 ⟨k,by simp;omega,by simp⟩
def dL (s:Int):Int:=(s+31) / 32
def aK (W:World) (a:Option Addr) (zs:List Int):Prop:=zs=[]\/∃ b off,a=some ⟨b,off,none⟩/\b<W.heap.size/\∀ j,j<zs.length->W.cell? ⟨b,off+j,none⟩=some (.int .i64 (zs.getD j 0))
theorem aK.below {W W':World} {a:Option Addr} {zs:List Int} (h:aK W a zs) (hb:ah W W'):aK W' a zs:=by
 rcases h with h | ⟨b,off,ha,hlt,hc⟩;·exact Or.inl h
 exact Or.inr ⟨b,off,ha,cv hlt hb.size,fun j hj=>(hb.cell (p:=⟨b,off+j,none⟩) hlt).trans (hc j hj)⟩
theorem aK.alloc {W:World} {a:Option Addr} {zs:List Int} (h:aK W a zs) (o:Obj):aK (W.alloc o) a zs:=h.below ((aQ _ _).alloc (av _) o)
theorem aK.drewN {W:World} {a:Option Addr} {zs:List Int} (h:aK W a zs) (n:Nat):aK (W.drewN n) a zs:=h
theorem aK.get {W:World} {a:Option Addr} {zs:List Int} {k:Nat} (h:aK W a zs) (hk:k<zs.length):∃ b off,a=some ⟨b,off,none⟩/\b<W.heap.size/\∀ j,j<zs.length->ad W b (off+j) (aa (zs.getD j 0)):=by
 rcases h with h | h
 ·subst h;simp at hk
 exact h
theorem cr {a b:Bool} (h:a=b):Ending.returned (.bool a)=.returned (.bool b):=by rw[h]
theorem OR (b off n c:Nat) (zs:List Int) (x:Int) (w:World) (hz:n<=zs.length) (hbig:n<=281474976710656) (hc:∀ j,j<zs.length->ad w b (off+j) (aa (zs.getD j 0))):Calls prog 81 #[.slice (some ⟨b,off,none⟩) n c,aa x] w (el (.bool (bC (zs.take n) x)) w):=by
 go_enter func81,ntmps81;go_wp2;go_loop [5] (fun i=>∃ k:Nat,k<=n/\bC (zs.take k) x=false/\i=aa k) (fun i=>n-(intOf i).toNat)
 case atStart=>exact ⟨0,bh _,rfl,rfl⟩
 case round=>
 obtain ⟨k,hk,hno,rfl⟩:=hrel;by_cases hlt:k<n
 ·have x1:=hc k (by omega);have hs:=ZI zs k x (by omega);have hin:=fun h:x=zs.getD k 0=>h ▸ IH (zs:=zs) hlt hz;obtain ⟨z,ez⟩:∃ z,zs.getD k 0=z:=⟨_,rfl⟩;rw[ez] at x1 hs hin;have e1:(0:Int)<=(k:Int):=by omega
  have e2:(k:Int)<(n:Int):=by omega
  by_cases h:z=x
  ·have h':(z == x)=true:=by simpa using h
   have HR:Hid (bC (zs.take n) x=true):=hin h.symm;clear h hs hin hno ez hc;go_wp2;go_ret;exact ⟨cr HR.out.symm,rfl⟩
  have h':(z == x)=false:=by simpa using h
  have HN:Hid (bC (zs.take (k+1)) x=false):=by rw[hs,hno,show (x == z)=false by simpa using fun q:x=z=>h q.symm];rfl
  clear h hs hin hno ez hc;go_wp2;go_round;case rel=>exact ⟨k+1,by omega,HN.out,by go_num⟩
  case measure=>simp[intOf];omega
 obtain rfl:k=n:=by omega
 have HN:Hid (bC (zs.take k) x=false):=hno;clear hno hc;go_wp2;go_ret;exact ⟨cr HN.out.symm,rfl⟩
theorem jq {P:Program} {f:FuncId} {args:Array Value} {w:World} {n:Nat} {a b:Bool} (h:Calls P f args (w.drewN n) fun e w'=>e=.returned (.bool a)/\w'=w.drewN n) (hab:a=b):Calls P f args (w.drewN n) fun e w''=>e=.returned (.bool b)/\∃ m,w''=w.drewN m:=hab ▸ yS h
theorem OS (a:Option Addr) (c:Nat) (zs:List Int) (w:World) (hbig:zs.length<=281474976710656) (hcap:zs.length<=c) (hR:aK w a zs):Calls prog 173 #[.slice a zs.length c] w fun e w'=>e=.returned (.bool (eE zs))/\∃ n,w'=w.drewN n:=by
 go_enter func173,ntmps173;go_wp2;go_loopw [3] (fun i w'=>∃ k n:Nat,k<=zs.length/\sy zs k=true/\i=aa k/\w'=w.drewN n) (fun i _=>zs.length-(intOf i).toNat);case atStart=>exact ⟨0,0,bh _,rfl,rfl,rfl⟩
 case round=>
 obtain ⟨k,n,hk,hok,rfl,hW⟩:=hrel;have HW:Hid (∀ m,∃ m',wr.drewN m=w.drewN m'):=fun m=>⟨n+m,by rw[hW,Oa]⟩;by_cases hlt:k<zs.length
 ·have hR':aK wr a zs:=by rw[hW];exact hR.drewN n
  obtain ⟨b,off,rfl,hb,hc⟩:=hR'.get hlt;have hH:Hid (∀ m x,Calls prog 81 #[.slice (some ⟨b,off,none⟩) k c,aa x] (wr.drewN m) fun e w'=>e=.returned (.bool (bC (zs.take k) x))/\w'=wr.drewN m):=fun m x=>OR b off k c zs x _ (by omega) (by omega) hc;have x1:=hc k hlt;have hs:=OQ zs k;have hat:pP zs k=(bp (zs.getD k 0) 5 23 && !(bC (zs.take k) (zs.getD k 0))):=rfl;obtain ⟨z,ez⟩:∃ z,zs.getD k 0=z:=⟨_,rfl⟩;rw[ez] at x1 hat;have e1:(0:Int)<=(k:Int):=by omega
  have e2:(k:Int)<(zs.length:Int):=by omega
  have e3:(k:Int)<=(c:Int):=by omega
  by_cases h1:bp z 5 23=true
  ·by_cases h2:bC (zs.take k) z=true
   ·have HR:Hid (eE zs=false):=zh hlt (by rw[hat,h1,h2];rfl);clear hs hat hok ez hc hR hR' hW;go_wp2;go_quiet ((first | (go_at_call 78;exact jq (fb _ _ _ _) h1) | (go_at_call 81;exact jq (hH.out _ _) h2)));go_wp2;go_ret;exact ⟨cr HR.out.symm,HW.out _⟩
   have h2':bC (zs.take k) z=false:=by simpa using h2
   have HO:Hid (sy zs (k+1)=true):=by rw[hs,hok,hat,h1,h2'];rfl
   clear hs hat hok ez hc hR hR' hW h2;go_wp2;go_quiet ((first | (go_at_call 78;exact jq (fb _ _ _ _) h1) | (go_at_call 81;exact jq (hH.out _ _) h2')));go_wp2;obtain ⟨m',hm'⟩:=HW.out nq;go_roundw;case rel=>exact ⟨k+1,m',by omega,HO.out,by go_num,hm'⟩
   case measure=>simp[intOf];omega
  have h1':bp z 5 23=false:=by simpa using h1
  have HR:Hid (eE zs=false):=zh hlt (by rw[hat,h1'];rfl);clear hs hat hok ez hc hR hR' hW h1;go_wp2;go_quiet ((go_at_call 78;exact jq (fb _ _ _ _) h1'));go_wp2;go_ret;exact ⟨cr HR.out.symm,HW.out _⟩
 obtain rfl:k=zs.length:=by omega
 have HR:Hid (eE zs=true):=hok;have HW0:Hid (wr=w.drewN n):=hW;clear hok hR hW;go_wp2;go_ret;exact ⟨cr HR.out.symm,n,HW0.out⟩
theorem OT (b off n c:Nat) (zs:List Int) (x:Int) (w:World) (hz:n<=zs.length) (hbig:n<=281474976710656) (hc:∀ j,j<zs.length->ad w b (off+j) (aa (zs.getD j 0))):Calls prog 141 #[.slice (some ⟨b,off,none⟩) n c,aa x] w (el (.bool (bC (zs.take n) x)) w):=Tryz.slices_Contains_int b off n c zs x w hz (by omega) hc
theorem II (a:Option Addr) (c:Nat) (zs:List Int) (w:World) (hbig:zs.length<=281474976710656) (hcap:zs.length<=c) (hR:aK w a zs):Calls prog 186 #[.slice a zs.length c] w (el (.bool (eE zs)) w):=by
 go_enter func186,ntmps186;go_wp2;go_loop [7] (fun i=>∃ k:Nat,k<=zs.length/\sy zs k=true/\i=aa k) (fun i=>zs.length-(intOf i).toNat)
 case atStart=>exact ⟨0,bh _,rfl,rfl⟩
 case round=>
 obtain ⟨k,hk,hok,rfl⟩:=hrel;by_cases hlt:k<zs.length
 ·obtain ⟨b,off,rfl,hb,hc⟩:=hR.get hlt;have hH:Hid (∀ x,Calls prog 141 #[.slice (some ⟨b,off,none⟩) k c,aa x] w (el (.bool (bC (zs.take k) x)) w)):=fun x=>OT b off k c zs x _ (by omega) (by omega) hc;have x1:=hc k hlt;have hs:=OQ zs k;have hat:pP zs k=(bp (zs.getD k 0) 5 23 && !(bC (zs.take k) (zs.getD k 0))):=rfl;obtain ⟨z,ez⟩:∃ z,zs.getD k 0=z:=⟨_,rfl⟩;rw[ez] at x1 hat;have e1:(0:Int)<=(k:Int):=by omega
  have e2:(k:Int)<(zs.length:Int):=by omega
  have e3:(k:Int)<=(c:Int):=by omega
  by_cases g1:z<5
  ·have HR:Hid (eE zs=false):=zh hlt (by rw[hat,show bp z 5 23=false from bA (by omega)];rfl)
   clear hs hat hok ez hc hR;go_wp2;go_ret;exact ⟨cr HR.out.symm,rfl⟩
  by_cases g2:24<=z
  ·have HR:Hid (eE zs=false):=zh hlt (by rw[hat,show bp z 5 23=false from bA (by omega)];rfl)
   clear hs hat hok ez hc hR;go_wp2;go_ret;exact ⟨cr HR.out.symm,rfl⟩
  have h1:bp z 5 23=true:=bK (by omega);by_cases h2:bC (zs.take k) z=true
  ·have HR:Hid (eE zs=false):=zh hlt (by rw[hat,h1,h2];rfl);clear hs hat hok ez hc hR;go_wp2_with (go_at_call 141;refine (hH.out _).mono ?_;rintro e w' ⟨rfl,rfl⟩);go_ret;exact ⟨cr HR.out.symm,rfl⟩
  have h2':bC (zs.take k) z=false:=by simpa using h2
  have HO:Hid (sy zs (k+1)=true):=by rw[hs,hok,hat,h1,h2'];rfl
  clear hs hat hok ez hc hR h2;go_wp2_with (go_at_call 141;refine (hH.out _).mono ?_;rintro e w' ⟨rfl,rfl⟩);go_round;case rel=>exact ⟨k+1,by omega,HO.out,by go_num⟩
  case measure=>simp[intOf];omega
 obtain rfl:k=zs.length:=by omega
 have HR:Hid (eE zs=true):=hok;clear hok hR;go_wp2;go_ret;exact ⟨cr HR.out.symm,rfl⟩
theorem IJ (s:Int) (w:World) (h0:0<=s) (h1:s<=65535):Calls prog 172 #[aa s] w (el (aa (dL s)) w):=by
 have e:dL s=(s+32-1) / 32:=by unfold dL;omega
 rw[e];go_enter func172,ntmps172;go_wp2;go_ret;exact ⟨rfl,rfl⟩
theorem Bw (s:Int) (w:World) (h0:0<=s) (h1:s<=65535):Calls prog 34 #[aa s] w (el (aa (dL s)) w):=by
 have e:dL s=(s+32-1) / 32:=by unfold dL;omega
 rw[e];go_enter func34,ntmps34;go_wp2;go_ret;exact ⟨rfl,rfl⟩
end Go.Proofs.YtgpfmgaidbjcpaaGreatDoor
