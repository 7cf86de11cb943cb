/- Joined texts. -/
import Derived.Test.YtgpfmgaidbjcpaaGreatDoorJhD
set_option linter.unusedVariables false
set_option linter.unusedSimpArgs false
set_option maxRecDepth 10000
set_option maxHeartbeats 16000000
namespace Go.Proofs.YtgpfmgaidbjcpaaGreatDoor
open ChangeShapes WideShapes ChangeAt RowKit
open Go.Proofs.Tryz
def eM (s:ByteArray) (j:Nat):ByteArray:=aX s ((j:Int)*16) 16
def eQ (s:ByteArray) (k:Nat):List aB:=(List.range k).map fun (j:Nat)=>(kF (eM s j),jO (eM s j))
theorem lh (s:ByteArray) (k:Nat):(eQ s k).length=k:=by simp[eQ]
theorem Pq (s:ByteArray) (k:Nat):eQ s k ++ [(kF (eM s k),jO (eM s k))]=eQ s (k+1):=by simp[eQ,yR]
theorem I7 (s:ByteArray) (k j:Nat) (h:j<k):bl (eQ s k) j=(kF (eM s j),jO (eM s j)):=by rw[mQ _ _ (by rw[lh];exact h)];simp[eQ]
def eN (s:ByteArray):Nat:=min ((s.size+15) / 16) 13
def dh (s:ByteArray):Bool:=decide (s.size=0) || ((dS (eQ s (eN s))).toList == s.toList)
def dy (s:ByteArray):List aB:=if dh s then eQ s (eN s) else []
theorem Pu {a b:ByteArray} (h:a.toList=b.toList):a=b:=by rw[yU,yU] at h;exact kD (sk.1 h)
theorem aay (s:ByteArray) (j:Nat) (h:(j+1)*16<=s.size):eM s j=s.extract (j*16) (j*16+16):=by rw[eM,aX,show dq s.size ((j:Int)*16) 16=true from bK (by omega),aN rfl,show ((j:Int)*16).toNat=j*16 by omega,show ((j:Int)*16+16).toNat=j*16+16 by omega]
theorem aaz {x:ByteArray} (h:ig x=true):fY (kF x) (jO x)=x:=by have h2:=h;simp only[ig,ca,tH] at h2;rw[kF,jO,aN h,aN h];exact Pu h2.2
theorem Pw {x:ByteArray} (h:ig x=false):kF x=0/\jO x=⟨#[]⟩:=by simp[kF,jO,h]
theorem aaA:fm 0 ⟨#[]⟩=false:=by rw[fm,show bp 0 1 7=false from by decide,eS]
theorem aaB (s:ByteArray) (a b:Nat) (h1:a<=b) (h2:b<=s.size):s.extract 0 a++s.extract a b=s.extract 0 b:=by apply kD;apply sk.1;simp only[pI,uS,wH,Ig,Ih];rw[<- YT,show a+(b-a)=b by omega]
theorem Px (s:ByteArray) (n:Nat) (hE:∀ j,j<n->ig (eM s j)=true):∀ k,k<=n->k*16<=s.size->jE (eQ s n) k=s.extract 0 (k*16)
 | 0,_,_=>by apply kD;simp[jE]
 | k+1,hk,hs=>by rw[jE,Px s n hE k (by omega) (by omega),I7 s n k (by omega),aaz (hE k (by omega)),aay s k (by omega),aaB s _ _ (by omega) (by omega),show k*16+16=(k+1)*16 by omega]
theorem aaC (s:ByteArray):s.extract 0 s.size=s:=by apply kD;apply sk.1;rw[wH];simp only[Ig,Ih];exact ox (by rw[<- dX];exact av _)
theorem aaD {s:ByteArray} (h1:s.size<=192) (h2:s.size % 16=0) (hE:∀ j,j<s.size / 16->ig (eM s j)=true) (hD:fZ (eQ s (s.size / 16))=true):dh s=true/\eN s=s.size / 16:=by
 have hc:eN s=s.size / 16:=by unfold eN;omega
 refine ⟨?_,hc⟩;rw[dh,hc];have:dS (eQ s (s.size / 16))=s:=by rw[dS,aN hD,lh,Px s _ hE _ (av _) (by omega),show s.size / 16*16=s.size by omega];exact aaC s
 rw[this];simp
theorem wX {s:ByteArray} (h:dh s=true):s.size<=192/\s.size % 16=0/\eN s=s.size / 16/\(∀ j,j<s.size / 16->ig (eM s j)=true)/\fZ (eQ s (s.size / 16))=true:=by
 by_cases h0:s.size=0
 ·refine ⟨by omega,by omega,by unfold eN;omega,fun j hj=>by omega,?_⟩;rw[h0];rfl
 rw[dh,bA h0,DT] at h;have he:dS (eQ s (eN s))=s:=Pu (by simpa using h);have hD:fZ (eQ s (eN s))=true:=by
  cases hb:fZ (eQ s (eN s)) with
  | true=>rfl
  | false=>
   rw[dS,hb] at he;have:=iw ByteArray.size he;exact absurd this.symm h0
 have hd:=hD;simp only[fZ,ca,dp] at hd;rw[lh] at hd;have hsz:s.size=16*eN s:=by have:=El hd.2 (eN s) (av _);rw[dS,aN hD,lh] at he;rw[he] at this;exact this
 have hc:eN s=s.size / 16:=by omega
 rw[<- hc];refine ⟨by omega,by omega,rfl,fun j hj=>?_,hD⟩;cases hb:ig (eM s j) with
 | true=>rfl
 | false=>
  have h1:=(Ej (Ek hd.2 hj)).1;rw[I7 s _ j hj,(Pw hb).1,(Pw hb).2,aaA] at h1;cases h1
def aj (mem:ByteArray) (i:Int):ByteArray:=aX mem (aZ i) 16
def di (mem:ByteArray) (zs:List Int):Nat->ByteArray
 | 0=>⟨#[]⟩
 | k+1=>di mem zs k++aX mem (zs.getD k 0*32) 32
theorem EB {mem:ByteArray} (hm:mem.size=768) {z:Int} (h0:5<=z) (h1:z<=23):(aX mem (z*32) 32).size=32:=by
 rw[aX,show dq mem.size (z*32) 32=true from bK (by omega),aN rfl,pH]
 omega
theorem BE {mem:ByteArray} (hm:mem.size=768) {zs:List Int} (hp:eE zs=true):∀ k,k<=zs.length->(di mem zs k).size=32*k
 | 0,_=>rfl
 | k+1,h=>by have hz:=By hp (k:=k) (by omega);rw[di,ke,BE hm hp k (by omega),EB hm hz.1 hz.2];omega
def cI (mem:ByteArray) (i:Int):Bool:=decide (mem.size=768) && (bM (aj mem i) && !decide (aW (aj mem i) 0=0))
def bO (mem:ByteArray) (i:Int):Int:=if cI mem i then bg (aj mem i) else 0
def cB (mem:ByteArray) (i:Int):Int:=if cI mem i then bI (aj mem i) else 0
def cX (mem:ByteArray) (i:Int):Int:=if cI mem i then bU (aj mem i) else 0
def bV (mem:ByteArray) (i:Int):List Int:=if cI mem i then aD (aj mem i) else []
def dj (mem:ByteArray) (i:Int):ByteArray:=if cI mem i then (di mem (aD (aj mem i)) (aD (aj mem i)).length).extract 0 (bU (aj mem i)).toNat else ⟨#[]⟩
theorem I8 {mem:ByteArray} {i:Int} (h:cI mem i=false):bO mem i=0/\cB mem i=0/\cX mem i=0/\bV mem i=[]/\dj mem i=⟨#[]⟩:=by simp[bO,cB,cX,bV,dj,h]
theorem I9 {mem:ByteArray} {i:Int} (h:cI mem i=true):bO mem i=bg (aj mem i)/\cB mem i=bI (aj mem i)/\cX mem i=bU (aj mem i)/\bV mem i=aD (aj mem i)/\dj mem i=(di mem (aD (aj mem i)) (aD (aj mem i)).length).extract 0 (bU (aj mem i)).toNat:=by simp[bO,cB,cX,bV,dj,h]
theorem aaE {mem:ByteArray} {i:Int} (h:¬ mem.size=768):cI mem i=false:=by rw[cI,bA h,dC]
theorem aaF {mem:ByteArray} {i:Int} (h:bM (aj mem i)=false):cI mem i=false:=by rw[cI,h,dC,eS]
theorem aaG {mem:ByteArray} {i:Int} (h:aW (aj mem i) 0=0):cI mem i=false:=by rw[cI,bK h,tG,eS,eS]
theorem Py {mem:ByteArray} {i:Int} (h1:mem.size=768) (h2:bM (aj mem i)=true) (h3:¬ aW (aj mem i) 0=0):cI mem i=true:=by rw[cI,bK h1,h2,bA h3];rfl
theorem vg (mem:ByteArray) (i:Int) (h:mem.size<=281474976710656):(aj mem i).size<=281474976710656:=by have:=nH mem (aZ i) 16;unfold aj;omega
theorem pQ {s:ByteArray} (h:bM s=true):(0<=bU s/\bU s<=192)/\(aD s).length<=6/\bU s<=32*((aD s).length:Int)/\eE (aD s)=true/\(0<=bg s/\bg s<=2):=by have hb:=zi (zm h).2.2;obtain ⟨e1,e2,e3,e4⟩:=zp h;rw[e1,e3,e4];refine ⟨hb.2.2.1,hb.2.2.2.1,?_,hb.2.2.2.2.2,hb.1⟩;rw[hb.2.2.2.2.1];unfold dL;omega
structure ai where
 ino:Int
 cl:Int
 un:Int
 rc:ByteArray
 pg:List Int
 aU:ByteArray
 po:List Int
 fr:List Int
def bX (f:Nat->Bool) (k:Nat):Bool:=(List.range k).all f
theorem aaH (f:Nat->Bool):bX f 0=true:=rfl
theorem Pz (f:Nat->Bool) (k:Nat):bX f (k+1)=(bX f k && f k):=by simp[bX,yR]
theorem kH {f:Nat->Bool} {k:Nat}:bX f k=true ↔ ∀ i,i<k->f i=true:=by simp[bX,oz]
theorem qP {f:Nat->Bool} {k n:Nat} (hk:k<n) (h:f k=false):bX f n=false:=by
 cases e:bX f n with
 | false=>rfl
 | true=>rw[kH.1 e k hk] at h;cases h
theorem qQ {f:Nat->Bool} {k:Nat} (h:bX f k=true) (hf:f k=true):bX f (k+1)=true:=by rw[Pz,h,hf];rfl
def tP (zs:List Int) (i:Nat):Bool:=decide (i=0) || decide (zs.getD (i-1) 0<zs.getD i 0)
def ff (zs:List Int):Bool:=bX (tP zs) zs.length
def EC (zs:List Int) (a b:Int) (i:Nat):Bool:=bp (zs.getD i 0) a b && tP zs i
def BF (zs:List Int) (a b:Int):Bool:=bX (EC zs a b) zs.length
def zt (pg po:List Int) (i:Nat):Bool:=!(bC pg (po.getD i 0))
def qR (pg po:List Int):Bool:=bX (zt pg po) po.length
def ED (zs al:List Int) (i:Nat):Bool:=bC al (zs.getD i 0)
def oD (zs al:List Int):Bool:=bX (ED zs al) zs.length
def nI (fr:List Int) (ino:Int) (i:Nat):Bool:=bp (fr.getD i 0) 1 7 && !decide (fr.getD i 0=ino)
def kI (d:ai):Bool:=bM d.rc && (!decide (bg d.rc=0) && (decide (aD d.rc=d.pg) && (decide (d.aU.size=d.pg.length*32) && (!decide (bg d.rc=2) || dh (aX d.aU 0 (bU d.rc))))))
def nJ (d:ai):Bool:=decide (0<=d.ino) && (decide (d.ino<8) && (decide (0<=d.cl) && (decide (d.cl<=8) && decide (0<=d.un))))
def Ja (d:ai):Bool:=decide (d.po.length<=4) && (ff d.po && eE (aD d.rc++d.po))
def Jb (d:ai):Bool:=if bg d.rc=2 then decide (d.fr.length<=2) && (ff d.fr && bX (nI d.fr d.ino) d.fr.length) else decide (d.fr.length=0)
def bZ (d:ai):Bool:=kI d && (nJ d && (Ja d && Jb d))
def zu (d:ai):Bool:=bM d.rc && (!decide (bg d.rc=0) && (bp d.ino 0 7 && (bp d.cl 0 8 && (!decide (d.un<0) && (decide (aD d.rc=d.pg) && decide (d.aU.size=d.pg.length*32))))))
def PA (d:ai):Bool:=!decide (bg d.rc=2) || dh (aX d.aU 0 (bU d.rc))
def Jc (d:ai):Bool:=BF d.po 5 23 && (decide (d.po.length<=4) && (BF d.fr 1 7 && (decide (d.fr.length<=2) && (!(bC d.fr d.ino) && (decide (bg d.rc=2) || decide (d.fr.length=0))))))
def EE (d:ai):Bool:=zu d && (qR d.pg d.po && (PA d && Jc d))
theorem qS {zs:List Int} {i:Nat} (h:i<zs.length):zs.getD i 0 ∈ zs:=by rw[fq _ _ h];exact ny h
theorem zv {zs:List Int} {z:Int} (h:z ∈ zs):∃ i,i<zs.length/\zs.getD i 0=z:=by obtain ⟨i,hi,e⟩:=yQ.1 h;exact ⟨i,hi,by rw[fq _ _ hi];exact e⟩
theorem Jd {l:List Int} {x:Int}:bC l x=true ↔ x ∈ l:=by unfold bC;exact List.contains_iff_mem
theorem zw {l:List Int} {x:Int}:bC l x=false ↔ ¬ x ∈ l:=by rw[<- Jd];cases bC l x <;> simp
theorem nK {z a b:Int}:bp z a b=true ↔ a<=z/\z<=b:=by unfold bp;simp
theorem nM {zs:List Int}:eE zs=true ↔ (∀ z ∈ zs,5<=z/\z<=23)/\zs.Nodup:=by
 have h0:eE zs=bX (pP zs) zs.length:=rfl;rw[h0,kH];constructor
 ·intro h;refine ⟨fun z hz=>?_,?_⟩
  ·obtain ⟨i,hi,rfl⟩:=zv hz;have:=h i hi;simp only[pP,ca] at this;exact nK.1 this.1
  rw[List.Nodup,uV];intro i j hi hj hij e;have:=h j hj;simp only[pP,ca,oy] at this;have h2:=IH (zs:=zs) hij (pJ hj);rw[fq _ _ hi,e,<- fq _ _ hj,this.2] at h2;cases h2
 rintro ⟨h1,h2⟩ i hi;simp only[pP,ca,oy];refine ⟨nK.2 (h1 _ (qS hi)),zw.2 fun hm=>?_⟩;obtain ⟨j,hj,e⟩:=yQ.1 hm;have hj':j<i:=by simp at hj;omega
 rw[DQ,fq _ _ hi] at e;rw[List.Nodup,uV] at h2;exact h2 j i (by omega) hi hj' e
theorem PB {zs:List Int}:ff zs=true ↔ zs.Pairwise (· < ·):=by
 unfold ff;rw[kH,uV];constructor
 ·intro h i j hi hj hij;induction j with
  | zero=>omega
  | succ j ih=>
   have hs:=h (j+1) hj;simp only[tP,nx,dp,Nat.add_sub_cancel] at hs;have hs':zs[j]<zs[j+1]:=by
    rcases hs with hs | hs;·omega
    rw[fq _ _ (by omega),fq _ _ hj] at hs;exact hs
   by_cases e:i=j
   ·subst e;exact hs'
   ·exact Int.lt_trans (ih (by omega) (by omega)) hs'
 intro h i hi;simp only[tP,nx,dp];by_cases e:i=0;·exact Or.inl e
 right;rw[fq _ _ (by omega),fq _ _ hi];exact h (i-1) i (by omega) hi (by omega)
theorem aaI {zs:List Int} (h:ff zs=true):zs.Nodup:=(PB.1 h).imp fun h e=>by omega
theorem wY {zs:List Int} {a b:Int}:BF zs a b=true ↔ (∀ z ∈ zs,a<=z/\z<=b)/\ff zs=true:=by
 unfold BF ff;rw[kH,kH];constructor
 ·intro h;refine ⟨fun z hz=>?_,fun i hi=>?_⟩
  ·obtain ⟨i,hi,rfl⟩:=zv hz;have:=h i hi;simp only[EC,ca] at this;exact nK.1 this.1
  have:=h i hi;simp only[EC,ca] at this;exact this.2
 rintro ⟨h1,h2⟩ i hi;simp only[EC,ca];exact ⟨nK.2 (h1 _ (qS hi)),h2 i hi⟩
theorem PC {pg po:List Int}:qR pg po=true ↔ ∀ z ∈ po,¬ z ∈ pg:=by
 unfold qR;rw[kH];constructor
 ·intro h z hz;obtain ⟨i,hi,rfl⟩:=zv hz;have:=h i hi;simp only[zt,oy] at this;exact zw.1 this
 intro h i hi;simp only[zt,oy];exact zw.2 (h _ (qS hi))
theorem PD {fr:List Int} {ino:Int}:bX (nI fr ino) fr.length=true ↔ (∀ z ∈ fr,1<=z/\z<=7)/\¬ ino ∈ fr:=by
 rw[kH];constructor
 ·intro h;refine ⟨fun z hz=>?_,fun hm=>?_⟩
  ·obtain ⟨i,hi,rfl⟩:=zv hz;have:=h i hi;simp only[nI,ca] at this;exact nK.1 this.1
  obtain ⟨i,hi,e⟩:=zv hm;have:=h i hi;simp only[nI,ca,oy,wI] at this;exact this.2 e
 rintro ⟨h1,h2⟩ i hi;simp only[nI,ca,oy,wI];exact ⟨nK.2 (h1 _ (qS hi)),fun e=>h2 (e ▸ qS hi)⟩
theorem aaJ (d:ai):EE d=bZ d:=by
 rw[YU];by_cases hP:zu d=true
 ·have h:=hP;simp only[zu,ca,oy,dp,wI,nK] at h;obtain ⟨hI,hk,hi,hc,hu,hz,hs⟩:=h;have hg:=pQ hI;have gY:=nM.1 hg.2.2.2.1;rw[hz] at gY;simp only[EE,bZ,hP,kI,nJ,Ja,hI,hk,hz,hs,ca,fJ,decide_true,decide_false,Oc,dp,PA,Jc];rw[PC,wY,wY,nM];constructor
  ·rintro ⟨h1,h2,⟨h3,h4⟩,h5,⟨h6,h7⟩,h8,h9,h10⟩;refine ⟨h2,⟨by omega,by omega,by omega,by omega,by omega⟩,⟨h5,h4,?_,?_⟩,?_⟩
   ·intro z hz';rcases mr.1 hz' with h | h;·exact gY.1 z h
    exact h3 z h
   ·exact YV.2 ⟨gY.2,aaI h4,fun a ha b hb e=>h1 b hb (e ▸ ha)⟩
   unfold Jb;by_cases k2:bg d.rc=2
   ·rw[aN k2];simp only[ca,dp];exact ⟨h8,h7,PD.2 ⟨h6,zw.1 (by simpa using h9)⟩⟩
   rw[aM k2];simp only[k2,decide_false,DT,dp,nx,false_or] at h10;simpa using h10
  rintro ⟨h2,⟨n1,n2,n3,n4,n5⟩,⟨h5,h4,h3,hnd⟩,hf⟩;have hnd':=YV.1 hnd;have hfr:BF d.fr 1 7=true/\d.fr.length<=2/\(!bC d.fr d.ino)=true/\(decide (bg d.rc=2) || decide (d.fr.length=0))=true:=by
   unfold Jb at hf;by_cases k2:bg d.rc=2
   ·rw[aN k2] at hf;simp only[ca,dp] at hf;obtain ⟨f1,f2,f3⟩:=hf;obtain ⟨f4,f5⟩:=PD.1 f3;exact ⟨wY.2 ⟨f4,f2⟩,f1,by simpa using zw.2 f5,by simp[k2]⟩
   rw[aM k2] at hf;have h0:d.fr=[]:=sn (by simpa using hf);rw[h0];exact ⟨rfl,by decide,rfl,by simp⟩
  obtain ⟨q1,q2,q3,q4⟩:=hfr;exact ⟨fun z hz' hz2=>hnd'.2.2 z hz2 z hz' rfl,h2,⟨fun z hz'=>h3 z (mr.2 (Or.inr hz')),h4⟩,h5,wY.1 q1,q2,q3,q4⟩
 have h1:zu d=false:=by simpa using hP
 simp only[EE,h1,dC,Bool.false_eq_true,false_iff];intro hl;apply hP;simp only[bZ,kI,nJ,ca,dp] at hl;obtain ⟨⟨a1,a2,a3,a4,a5⟩,⟨b1,b2,b3,b4,b5⟩,-⟩:=hl;simp only[zu,ca,dp,nK];exact ⟨a1,a2,⟨b1,by omega⟩,⟨b3,b4⟩,by simp;omega,a3,a4⟩
theorem jt {d:ai} (h:bZ d=true):bM d.rc=true/\bg d.rc≠0/\aD d.rc=d.pg/\d.aU.size=d.pg.length*32/\(0<=d.ino/\d.ino<=7)/\(0<=d.cl/\d.cl<=8)/\d.pg.length<=6/\d.po.length<=4/\d.fr.length<=2/\eE (d.pg++d.po)=true/\(∀ z ∈ d.fr,1<=z/\z<=7)/\ff d.po=true/\ff d.fr=true:=by have h':=h;rw[<- aaJ] at h';simp only[EE,zu,Jc,ca,dp,nK,oy,wI] at h';obtain ⟨⟨a1,a2,a3,a4,a5,a6,a7⟩,-,-,b1,b2,b3,b4,-⟩:=h';simp only[bZ,Ja,ca] at h;have hp:=h.2.2.1.2.2;rw[a6] at hp;have:=(pQ a1).2.1;rw[a6] at this;exact ⟨a1,a2,a6,a7,a3,a4,this,b2,b4,hp,(wY.1 b3).1,(wY.1 b1).2,(wY.1 b3).2⟩
section
open Go.Joins Go.Deep
structure aI where
 a1:Option Addr
 c1:Nat
 a2:Option Addr
 c2:Nat
 a3:Option Addr
 c3:Nat
abbrev jG (d:ai) (s:aI):List Value:=[.int .i64 d.ino,.int .i64 d.cl,.int .i64 d.un,.string d.rc,.slice s.a1 d.pg.length s.c1,.string d.aU,.slice s.a2 d.po.length s.c2,.slice s.a3 d.fr.length s.c3]
abbrev bL (d:ai) (s:aI):Value:=.agg #[.int .i64 d.ino,.int .i64 d.cl,.int .i64 d.un,.string d.rc,.slice s.a1 d.pg.length s.c1,.string d.aU,.slice s.a2 d.po.length s.c2,.slice s.a3 d.fr.length s.c3]
abbrev dU (d:ai) (s:aI):Array Value:=#[.int .i64 d.ino,.int .i64 d.cl,.int .i64 d.un,.string d.rc,.slice s.a1 d.pg.length s.c1,.string d.aU,.slice s.a2 d.po.length s.c2,.slice s.a3 d.fr.length s.c3]
structure cJ (W:World) (d:ai) (s:aI):Prop where
 r1:aK W s.a1 d.pg
 r2:aK W s.a2 d.po
 r3:aK W s.a3 d.fr
structure iV (d:ai) (s:aI):Prop where
 p1:d.pg.length<=281474976710656
 m4:d.rc.size<=281474976710656
 m5:d.aU.size<=281474976710656
variable {W W' : World} {d : ai} {s : aI}
theorem cJ.below (h:cJ W d s) (hb:ah W W'):cJ W' d s:=⟨h.r1.below hb,h.r2.below hb,h.r3.below hb⟩
theorem cJ.alloc (h:cJ W d s) (o:Obj):cJ (W.alloc o) d s:=⟨h.r1.alloc o,h.r2.alloc o,h.r3.alloc o⟩
theorem cJ.drew (h:cJ W d s):cJ W.drew d s:=⟨h.r1,h.r2,h.r3⟩
section
variable {H : Type} {enc : TypeId × Value → H} {w : World}
end
structure fw (B:Nat) (d:ai) (s:aI) (W:World):Prop where
 b:az B (jG d s) W
variable {B : Nat}
theorem fw.c0 (h:fw B d s W):ad W B 0 (aa d.ino):=h.b.cell 0 (by simp)
theorem fw.c1 (h:fw B d s W):ad W B 1 (aa d.cl):=h.b.cell 1 (by simp)
theorem fw.c2 (h:fw B d s W):ad W B 2 (aa d.un):=h.b.cell 2 (by simp)
theorem fw.c3 (h:fw B d s W):ad W B 3 (.string d.rc):=h.b.cell 3 (by simp)
theorem fw.c4 (h:fw B d s W):ad W B 4 (.slice s.a1 d.pg.length s.c1):=h.b.cell 4 (by simp)
theorem fw.c5 (h:fw B d s W):ad W B 5 (.string d.aU):=h.b.cell 5 (by simp)
theorem fw.c6 (h:fw B d s W):ad W B 6 (.slice s.a2 d.po.length s.c2):=h.b.cell 6 (by simp)
theorem fw.c7 (h:fw B d s W):ad W B 7 (.slice s.a3 d.fr.length s.c3):=h.b.cell 7 (by simp)
theorem fw.below (h:fw B d s W) (hb:ah W W'):fw B d s W':=⟨h.b.below hb⟩
theorem jP (d:ai) (s:aI) (w:World) (T:TypeId):fw w.heap.size d s (w.alloc (.cells (dU d s) T)):=⟨aY (jG d s) w T⟩
end
theorem Je (a:Option Addr) (c:Nat) (zs:List Int) (x:Int) (w:World) (hbig:zs.length<=281474976710656) (hR:aK w a zs):Calls prog 81 #[.slice a zs.length c,aa x] w (el (.bool (bC zs x)) w):=by
 by_cases h0:zs=[]
 ·subst h0;go_enter func81,ntmps81;go_wp2;go_loop [5] (fun i=>i=aa 0) (fun _=>0)
  case atStart=>rfl
  case round=>
  subst hrel;go_wp2;go_ret;exact ⟨rfl,rfl⟩
 rcases hR with h | ⟨b,off,rfl,hb,hc⟩;·exact absurd h h0
 have:=OR b off zs.length c zs x w (av _) hbig hc;rw[nC] at this;exact this
theorem pR (a:Option Addr) (c:Nat) (zs:List Int) (x:Int) (w:World) (hbig:zs.length<=281474976710656) (hR:aK w a zs):Calls prog 141 #[.slice a zs.length c,aa x] w (el (.bool (bC zs x)) w):=by
 by_cases h0:zs=[]
 ·subst h0;exact Tryz.slices_Contains_int_empty a c x w
 rcases hR with h | ⟨b,off,rfl,hb,hc⟩;·exact absurd h h0
 have:=OT b off zs.length c zs x w (av _) hbig hc;rw[nC] at this;exact this
theorem BG (a:Option Addr) (c:Nat) (zs:List Int) (w:World) (hbig:zs.length<=281474976710656) (hR:aK w a zs):Calls prog 48 #[.slice a zs.length c] w fun e w'=>e=.returned (.bool (ff zs))/\∃ n,w'=w.drewN n:=by
 go_enter func48,ntmps48;go_wp2;go_loopw [3] (fun i w'=>∃ k n:Nat,1<=k/\(k<=zs.length\/k=1)/\bX (tP zs) k=true/\i=aa k/\w'=w.drewN n) (fun i _=>zs.length-(intOf i).toNat);case atStart=>exact ⟨1,0,av _,Or.inr rfl,rfl,rfl,rfl⟩
 case round=>
 obtain ⟨k,n,hk1,hk,hok,rfl,hW⟩:=hrel;have HW:Hid (∀ m,∃ m',wr.drewN m=w.drewN m'):=fun m=>⟨n+m,by rw[hW,Oa]⟩;by_cases hlt:k<zs.length
 ·have hR':aK wr a zs:=by rw[hW];exact hR.drewN n
  obtain ⟨b,off,rfl,hb,hc⟩:=hR'.get hlt;have x1:=hc k hlt;have x2:=hc (k-1) (by omega);have hat:tP zs k=(decide (k=0) || decide (zs.getD (k-1) 0<zs.getD k 0)):=rfl;obtain ⟨z,ez⟩:∃ z,zs.getD k 0=z:=⟨_,rfl⟩;obtain ⟨y,ey⟩:∃ y,zs.getD (k-1) 0=y:=⟨_,rfl⟩;rw[ez] at x1 hat;rw[ey] at x2 hat;have e1:(0:Int)<=(k:Int):=by omega
  have e2:(k:Int)<(zs.length:Int):=by omega
  have e3:(0:Int)<=(k:Int)-1:=by omega
  have e4:(k:Int)-1<(zs.length:Int):=by omega
  have e5:((k:Int)-1).toNat=k-1:=by omega
  by_cases h:z<=y
  ·have HR:Hid (ff zs=false):=qP hlt (by rw[hat,bA (by omega),bA (by omega)];rfl);clear hat hok ez ey hc hR hR' hW;go_wp2;go_quiet (fail);go_wp2;go_ret;exact ⟨cr HR.out.symm,HW.out _⟩
  have h':decide (z<=y)=false:=by simpa using h
  have HO:Hid (bX (tP zs) (k+1)=true):=qQ hok (by rw[hat,bK (show y<z by omega),Od]);clear hat hok ez ey hc hR hR' hW;go_wp2;go_quiet (fail);go_wp2;obtain ⟨m',hm'⟩:=HW.out nq;go_roundw;case rel=>exact ⟨k+1,m',by omega,Or.inl (by omega),HO.out,by go_num,hm'⟩
  case measure=>simp[intOf];omega
 have HR:Hid (ff zs=true):=by
  show bX (tP zs) zs.length=true
  exact kH.2 fun i hi=>kH.1 hok i (by omega)
 have HW0:Hid (wr=w.drewN n):=hW;have e6:decide ((k:Int)<(zs.length:Int))=false:=by simp;omega
 clear hok hR hW;go_wp2;go_ret;exact ⟨cr HR.out.symm,n,HW0.out⟩
def BH (xs ys:List Int) (i:Nat):Bool:=decide (xs.getD i 0=ys.getD i 0)
theorem aaK {xs ys:List Int} (hl:xs.length=ys.length) (h:bX (BH xs ys) xs.length=true):xs=ys:=by apply List.ext_getElem hl;intro i h1 h2;have:=kH.1 h i h1;simp only[BH,dp] at this;rwa [fq _ _ h1,fq _ _ h2] at this
theorem aaL {xs ys:List Int} {k:Nat} (hk:¬ xs.getD k 0=ys.getD k 0):¬ xs=ys:=fun e=>hk (by rw[e])
theorem Jf (a1 a2:Option Addr) (c1 c2:Nat) (xs ys:List Int) (w:World) (hb1:xs.length<=281474976710656) (hb2:ys.length<=281474976710656) (h1:aK w a1 xs) (h2:aK w a2 ys):Calls prog 185 #[.slice a1 xs.length c1,.slice a2 ys.length c2] w fun e w'=>e=.returned (.bool (decide (xs=ys)))/\∃ n,w'=w.drewN n:=by
 by_cases hl:xs.length=ys.length
 ·have hl':((xs.length:Int) != (ys.length:Int))=false:=by simp;omega
  go_enter func185,ntmps185;go_wp2;go_loopw [13] (fun i w'=>∃ k n:Nat,k<=xs.length/\bX (BH xs ys) k=true/\i=aa k/\w'=w.drewN n) (fun i _=>xs.length-(intOf i).toNat);case atStart=>exact ⟨0,0,bh _,rfl,rfl,rfl⟩
  case round=>
  obtain ⟨k,n,hk,hok,rfl,hW⟩:=hrel;have HW:Hid (∀ m,∃ m',wr.drewN m=w.drewN m'):=fun m=>⟨n+m,by rw[hW,Oa]⟩;by_cases hlt:k<xs.length
  ·have h1':aK wr a1 xs:=by rw[hW];exact h1.drewN n
   have h2':aK wr a2 ys:=by rw[hW];exact h2.drewN n
   obtain ⟨b1,off1,rfl,_,hc1⟩:=h1'.get hlt;obtain ⟨b2,off2,rfl,_,hc2⟩:=h2'.get (by omega:k<ys.length);have x1:=hc1 k hlt;have x2:=hc2 k (by omega);have hat:BH xs ys k=decide (xs.getD k 0=ys.getD k 0):=rfl;have hne:¬ xs.getD k 0=ys.getD k 0->¬ xs=ys:=aaL;obtain ⟨z,ez⟩:∃ z,xs.getD k 0=z:=⟨_,rfl⟩;obtain ⟨y,ey⟩:∃ y,ys.getD k 0=y:=⟨_,rfl⟩;rw[ez] at x1 hat hne;rw[ey] at x2 hat hne;have e1:(0:Int)<=(k:Int):=by omega
   have e2:(k:Int)<(xs.length:Int):=by omega
   have e3:(k:Int)<(ys.length:Int):=by omega
   by_cases h:z=y
   ·have h':(z != y)=false:=by simpa using h
    have HO:Hid (bX (BH xs ys) (k+1)=true):=qQ hok (by rw[hat,bK h]);clear hat hok ez ey hc1 hc2 h1 h2 h1' h2' hW h hne hl;go_wp2;go_quiet (fail);go_wp2;obtain ⟨m',hm'⟩:=HW.out nq;go_roundw;case rel=>exact ⟨k+1,m',by omega,HO.out,by go_num,hm'⟩
    case measure=>simp[intOf];omega
   have h':(z != y)=true:=by simpa using h
   have HR:Hid (decide (xs=ys)=false):=bA (hne h);clear hat hok ez ey hc1 hc2 h1 h2 h1' h2' hW h hne hl;go_wp2;go_quiet (fail);go_wp2;go_ret;exact ⟨cr HR.out.symm,HW.out _⟩
  obtain rfl:k=xs.length:=by omega
  have HR:Hid (decide (xs=ys)=true):=bK (aaK hl hok);have HW0:Hid (wr=w.drewN n):=hW;have e9:decide (xs.length<ys.length)=false:=bA (by omega);clear hok h1 h2 hW hl;go_wp2;go_ret;exact ⟨cr HR.out.symm,n,HW0.out⟩
 have hl':((xs.length:Int) != (ys.length:Int))=true:=by simp;omega
 have HR:Hid (decide (xs=ys)=false):=bA fun e=>hl (by rw[e]);clear hl;go_enter func185,ntmps185;go_wp2;go_ret;exact ⟨cr HR.out.symm,0,rfl⟩
theorem BI (w:World) (row:Option Nat):w.grownBy w row:=⟨rfl,rfl,rfl,av _,fun _ _ _=>rfl⟩
theorem sC {w w1:World} {g j:Nat} (h:w.grownBy w1 (some g)) (v:Value):w.grownBy (w1.setCell ⟨g,j,none⟩ v) (some g):=by
 refine ⟨h.os,h.tape,h.output,?_,fun k hk hr=>?_⟩;·simpa using h.size
 have hne:k≠g:=fun e=>hr (by rw[e]);rw[<- h.block k hk hr];exact Ij w1 ⟨g,j,none⟩ v k hne
def qT (d:ai):Nat:=d.rc.size+d.pg.length+d.aU.size+d.po.length+d.fr.length
section
abbrev EF:List Value:=[.int .i64 0,.int .i64 0,.int .i64 0,.string ⟨#[]⟩,.slice none 0 0,.string ⟨#[]⟩,.slice none 0 0,.slice none 0 0]
variable {w W W' : World} {d : ai} {s : aI} {vs : List Value}
variable {B g1 g2 g3 : Nat}
theorem PG {B:Nat} {x0 x1 x2 x3 x4 x5 x6 x7 y0 y1 y2 y3 y4 y5 y6 y7:Value} (h:az B [x0,x1,x2,x3,x4,x5,x6,x7] W):az B [y0,y1,y2,y3,y4,y5,y6,y7] ((((((((W.setCell ⟨B,0,none⟩ y0).setCell ⟨B,1,none⟩ y1).setCell ⟨B,2,none⟩ y2).setCell ⟨B,3,none⟩ y3).setCell ⟨B,4,none⟩ y4).setCell ⟨B,5,none⟩ y5).setCell ⟨B,6,none⟩ y6).setCell ⟨B,7,none⟩ y7):=(((((((h.set 0 y0).set 1 y1).set 2 y2).set 3 y3).set 4 y4).set 5 y5).set 6 y6).set 7 y7
end
theorem aaM {i:Int} {s:ByteArray} (h:fm i s=false):(fY i s).toList.isEmpty=true:=by rw[fY,aM (by rw[h];decide),yU];rfl
theorem aaN {i:Int} {s:ByteArray} (h:fm i s=true):(fY i s).toList.isEmpty=false:=by
 have:=Ei h;rw[yU];cases hl:(fY i s).data.toList with
 | nil=>rw[dX,hl] at this;simp at this
 | cons x r=>rfl
theorem PH (a:Option Addr) (c:Nat) (es:List aB) (w:World) (hbig:es.length<=1048576) (hcap:es.length<=c) (hfit:pO es) (hR:cW w a es):Calls prog 73 #[.slice a es.length c] w (aV (.string (dS es)) w):=by
 have HB:Hid (∀ k,k<es.length->qM es k=false->dS es=⟨#[]⟩):=fun k hk h=>by rw[dS,IE hk h];rfl
 have HL:Hid (12<es.length->dS es=⟨#[]⟩):=fun h=>by rw[dS,fZ,bA (by omega:¬ es.length<=12)];rfl
 have HY:Hid (es.length<=12->nG es es.length=true->dS es=jE es es.length):=fun h1 h2=>by rw[dS,fZ,bK h1,h2];rfl
 go_enter func73,ntmps73;go_wp2;go_loopw [3,4] (fun t i w'=>∃ j:Nat,j<=es.length/\(j=0\/es.length<=12)/\nG es j=true/\i=aa j/\t=.string (jE es j)/\ah w w') (fun _ i _=>es.length-(intOf i).toNat);case atStart=>exact ⟨0,bh _,Or.inl rfl,rfl,rfl,rfl,aQ _ _⟩
 case round=>
 obtain ⟨j,hj,h12,hok,rfl,rfl,hbel⟩:=hrel;by_cases hlt:j<es.length
 ·obtain ⟨b,off,rfl,im,hc⟩:=(hR.below hbel).get hlt;have y1:=(hc j hlt).1;have y2:=(hc j hlt).2;have hs:=OM es j;have hat:qM es j=(fm (bl es j).1 (bl es j).2 && !(jD (es.take j) (bl es j))):=rfl;have hf:=hfit j hlt;have hu:jE es (j+1)=jE es j++fY (bl es j).1 (bl es j).2:=rfl;have hjs:=El hok j (av _);have hbad:=HB.out j hlt;have hin:=fun k (hk:k<j)=>OL (es:=es) (e:=bl es j) hk hj;have hts:=fun k (hk:k<es.length)=>OK es k (bl es j) hk;obtain ⟨z,ez⟩:∃ z,bl es j=z:=⟨_,rfl⟩;rw[ez] at y1 y2 hat hf hu hin hts;obtain ⟨u,v⟩:=z;simp only at y1 y2 hat hf hu;have e1:(0:Int)<=(j:Int):=by omega
  have e2:(j:Int)<(es.length:Int):=by omega
  clear ez hR hfit HB;go_wp2;go_loopw [5] (fun i w'=>∃ k m:Nat,k<=j/\jD (es.take k) (u,v)=false/\i=aa k/\w'=wr.drewN m) (fun i _=>j-(intOf i).toNat);case atStart=>exact ⟨0,0,bh _,rfl,rfl,rfl⟩
  case round=>
  obtain ⟨k,m,hk,hno,rfl,hW⟩:=hrel;have x1:ad wr b (off+j*2) (aa u):=by rw[hW];exact y1
  have x2:ad wr b (off+j*2+1) (.string v):=by rw[hW];exact y2
  have HW:ah w wr:=by rw[hW];exact gy hbel m
  have HD:Hid (wr=_):=hW;by_cases hlk:k<j
  ·have x3:ad wr b (off+k*2) (aa (bl es k).1):=by rw[hW];exact (hc k (by omega)).1
   have x4:ad wr b (off+k*2+1) (.string (bl es k).2):=by rw[hW];exact (hc k (by omega)).2
   have hin1:=hin k hlk;have Da:=hts k (by omega);obtain ⟨z,ez⟩:∃ z,bl es k=z:=⟨_,rfl⟩;rw[ez] at x3 x4 hin1 Da;obtain ⟨p,q⟩:=z;simp only at x3 x4;have f1:(0:Int)<=(k:Int):=by omega
   have f2:(k:Int)<(es.length:Int):=by omega
   have f3:(k:Int)<(j:Int):=by omega
   clear ez hc y1 y2 hW hin hts;by_cases h1:(q.toList == v.toList)=true
   ·have HR:Hid (dS es=⟨#[]⟩):=hbad (by rw[hat,hin1 (by rw[tN,h1];rfl),tG,eS]);clear hin1 Da hat hbad hs hok hu;go_wp2;go_quiet (fail);go_wp2;go_ret;exact ⟨wW HR.out.symm,gy HW _⟩
   have h1':(q.toList == v.toList)=false:=by simpa using h1
   by_cases h2:(p == u)=true
   ·have HR:Hid (dS es=⟨#[]⟩):=hbad (by rw[hat,hin1 (by rw[tN,h1',h2];rfl),tG,eS]);clear hin1 Da hat hbad hs hok hu h1;go_wp2;go_quiet (fail);go_wp2;go_ret;exact ⟨wW HR.out.symm,gy HW _⟩
   have h2':(p == u)=false:=by simpa using h2
   have HN:Hid (jD (es.take (k+1)) (u,v)=false):=by rw[Da,hno,tN,h1',h2'];rfl
   clear hin1 Da hat hbad hs hok hu h1 h2 hno;go_wp2;go_quiet (fail);go_wp2;go_roundw;case rel=>exact ⟨k+1,m+nq,by omega,HN.out,by go_num,by rw[HD.out,Oa]⟩
   case measure=>simp[intOf];omega
  obtain rfl:k=j:=by omega
  clear hc y1 y2 hW HD hin hts;by_cases hE:fm u v=true
  ·have g1:=aaN hE;have hps:=Ei hE;by_cases hl:12<es.length
   ·have HR:Hid (dS es=⟨#[]⟩):=HL.out hl;have hl':12<(es.length:Int):=by omega
    clear hat hbad hs hok hu hno;go_wp2_with (go_at_call 120;refine (Bu u v _ hf).mono ?_;rintro e w2 ⟨rfl,b2⟩);go_ret;exact ⟨wW HR.out.symm,HW.trans (b2.mono HW.size)⟩
   have hl':¬ 12<(es.length:Int):=by omega
   have hl'':decide (12<(es.length:Int))=false:=by simpa using hl'
   have HO:Hid (nG es (k+1)=true):=by rw[hs,hok,hat,hE,hno];rfl
   have HU:Hid (jE es (k+1)=jE es k++fY u v):=hu;have zz:(jE es k).size+(fY u v).size<=9223372036854775807:=by omega
   have zz2:16*k+16<=9223372036854775807:=by omega
   clear hat hbad hs hok hu hno;go_wp2_with (go_at_call 120;refine (Bu u v _ hf).mono ?_;rintro e w2 ⟨rfl,b2⟩);go_roundw;case rel=>exact ⟨k+1,by omega,Or.inr (by omega),HO.out,by go_num,by rw[HU.out],HW.trans (b2.mono HW.size)⟩
   case measure=>simp[intOf];omega
  have hE':fm u v=false:=by simpa using hE
  have g1:=aaM hE';have HR:Hid (dS es=⟨#[]⟩):=hbad (by rw[hat,hE'];rfl);clear hat hbad hs hok hu hno;go_wp2_with (go_at_call 120;refine (Bu u v _ hf).mono ?_;rintro e w2 ⟨rfl,b2⟩);go_ret;exact ⟨wW HR.out.symm,HW.trans (b2.mono HW.size)⟩
 obtain rfl:j=es.length:=by omega
 have HP:Hid (dS es=jE es es.length):=by
  show dS es=jE es es.length
  rcases h12 with h | h;·exact HY.out (by omega) hok
  exact HY.out h hok
 clear hok hR hfit h12 HB HL HY;go_wp2;go_ret;exact ⟨wW HP.out.symm,hbel⟩
section
theorem vh {P:Program} (w:World) (t ty e:TypeId) (i:TypeInfo) (ht:P.underlying t=some (.slice e)) (hi:P.info? e=some i) (b:Option Addr) (n cap:Nat) (hle:n<=cap) (ax:Option Addr) (cx:Nat):(Builtin.append_ #[t,t] ty #[.slice b n cap,.slice ax 0 cx]).run P w=.ok (.slice b n cap) w:=by
 cases b <;> cases ax <;> simp[Builtin.append_,DP ht,sizeOf,typeInfo,hi,Builtin.lenOf,Builtin.firstCells,loadCells,loadCellsFrom,storeCells,hle]
variable {base n cap : Nat} {a : Option Addr} {w W : World} {zs : List Int}
theorem Jg (xs:List Int):∀ u ∈ cR xs,u.oneCell'=true:=by intro u h;simp at h;obtain ⟨z,_,rfl⟩:=h;rfl
theorem tQ {ops:Array Oper} {rest:List Oper} {o:Oper} {A:Act} {Q:Exit->Act->World->Prop} (hgd:o.guard=none) (sl x:Operand) (ho:o.op=.call { callee:=.builtin .append,args:=#[sl,x],argTypes:=#[29,29] }) (hbuf:bH base w a n cap zs) (ax:Option Addr) (cx:Nat) (xs:List Int) (hs:A.eval sl=.slice a n cap) (hx:A.eval x=.slice ax xs.length cx) (hR:aK w ax xs) (hlen:n+xs.length<=4194304) (hb:base<=w.heap.size) (h:∀ a' cap' w',bH base w' a' (n+xs.length) cap' (zs++xs)->Below base w w'->wpList prog ops Q rest (A.put o.dst (.slice a' (n+xs.length) cap')) w'):wpList prog ops Q (o :: rest) A w:=by
 obtain ⟨i0,hi,hz0,hz1,hz2⟩:=iv vc;by_cases h0:xs=[]
 ·subst h0;refine Bf _ hgd sl x 29 29 ho _ _ hs hx _ _ (vh w 29 _ 3 i0 underlying29 hi a n cap hbuf.fits ax cx) ?_;exact h a cap w (by rw[qH];exact hbuf) (aQ _ _)
 rcases hR with hR | ⟨b,off,rfl,hb2,hc⟩;·exact absurd hR h0
 have hm:0<xs.length:=Bg.2 h0;refine qG _ hgd sl x 29 ho base 3 i0 (aa 0) 1 8 underlying29 hi hz0 hz1 hz2 rfl (by omega) _ n _ hs hbuf.2 ⟨b,off,none⟩ xs.length cx (cR xs) hx (by simp) ?_ (Jg xs) hm (by unfold maxLen;omega) (by omega) hb _ rfl ?_
 ·intro j u hj;have hj':j<xs.length:=by
   have:=(qI.1 hj).1;simpa using this
  rw[qL,hc j hj',fq _ _ hj',<- hj];simp[hj']
 intro g' cap' w' ho' hg' _ _;refine h (some ⟨g',0,none⟩) cap' w' ⟨by rw[hbuf.1];simp,?_⟩ ?_
 ·rw[show cR (zs++xs)=cR zs++cR xs by simp];exact ho'
 exact mw (aQ _ _) hg' (zr hbuf) hb
theorem aaO (k:Nat) (w:World) (hk:k<=4194304):Calls prog 99 #[.slice none 0 0,aa k] w fun e w'=>∃ a c,e=.returned (.slice a 0 c)/\bH w.heap.size w' a 0 c []/\ah w w':=by
 by_cases h0:k=0
 ·subst h0;go_enter func99,ntmps99;go_wp2;go_ret;exact ⟨none,0,rfl,Bz _,aQ _ _⟩
 obtain ⟨i0,hi,hz0,hz1,hz2⟩:=iv vc;have hrz:∀ ty,(Builtin.append_ #[29,3] ty #[.slice none 0 0,aa k]).run prog w=.ok (aH w.heap.size (0+k) (grownCap w (0+k) 0 3)) (w.drew.alloc (.cells ((#[]:Array Value)++Builtin.zeroCells (Value.int .i64 0).cells k++Builtin.zeroCells (Value.int .i64 0).cells (grownCap w (0+k) 0 3-(0+k))) 3)):=fun ty=>
  Lib.run_append_grow_zeros w 29 3 ty 3 i0 (aa 0) .i64 .i64 underlying29 underlying3 hi hz0 none 0 0 [] (run_firstCells_none w.drew i0.size 0 0 0) k (by omega) (by omega) (by omega) (by omega) (by rw[hz2];omega) (by rw[hz2,Builtin.nextslicecap,aN (by omega)];omega)
 have hG:=grownCap_ge w (0+k) 0 3;have hM:=grownCap_le_maxLen w (0+k) 0 3 (by unfold maxLen;omega);have hgt:(0:Int)<(k:Int):=by omega
 have hnk:0<k:=by omega
 obtain ⟨C,hC⟩:∃ C:Array Value,C=(#[]:Array Value)++Builtin.zeroCells (Value.int .i64 0).cells k++Builtin.zeroCells (Value.int .i64 0).cells (grownCap w (0+k) 0 3-(0+k)):=⟨_,rfl⟩;rw[<- hC] at hrz;rw[dW] at hC hrz hG hM;have hsz:C.size=grownCap w k 0 3:=by rw[hC];simp[Builtin.zeroCells,Value.cells];omega
 obtain ⟨G,hg⟩:∃ G,grownCap w k 0 3=G:=⟨_,rfl⟩;rw[hg] at hrz hG hM hsz;have hbuf:bH w.heap.size (w.drew.alloc (.cells C 3)) (some ⟨w.heap.size,0,none⟩) 0 G []:=⟨rfl,uT w.drew C G (av _) hM (by omega)⟩;have hbel:ah w (w.drew.alloc (.cells C 3)):=(aQ _ w).drew.alloc (av _) _;have hM':G<=9223372036854775807:=hM;have pw:k<=G:=by omega
 clear hC hsz hg hM hi hz0 hz1 hz2;go_enter func99,ntmps99;go_wp2_with (at_builtin;refine Bf _ rfl _ _ _ _ rfl _ _ rfl rfl _ _ (hrz _) ?_);all_goals
  go_ret;exact ⟨_,_,rfl,hbuf,hbel⟩
def sD (xs zs:List Int) (k:Nat):List Int:=if k=0 then [] else if k=1 then xs else zs
theorem aaP (B:Nat) (a1 a2:Option Addr) (c1 c2:Nat) (xs ys zs:List Int) (hzs:zs=xs++ys) (w:World) (h1:ad w B 0 (.slice a1 xs.length c1)) (h2:ad w B 1 (.slice a2 ys.length c2)) (hB:B<w.heap.size) (R1:aK w a1 xs) (R2:aK w a2 ys) (hx:xs.length<=1048576) (hy:ys.length<=1048576):Calls prog 52 #[aH B 2 2] w fun e w'=>∃ a c,e=.returned (.slice a zs.length c)/\aR w.heap.size w' a zs/\zs.length<=c/\ah w w':=by
 have HL:Hid (zs.length=xs.length+ys.length):=by rw[hzs];exact de
 have HZ:Hid (xs++ys=zs):=hzs.symm;have hzl:zs.length<=4194304:=by rw[HL.out];omega
 clear hzs;go_enter func52,ntmps52;go_wp2;go_loop [3,11] (fun v i=>∃ k:Nat,k<=2/\i=aa k/\v=aa ((sD xs zs k).length:Int)) (fun _ i=>2-(intOf i).toNat)
 case atStart=>exact ⟨0,bh _,rfl,rfl⟩
 case round=>
 obtain ⟨k,hk,rfl,rfl⟩:=hrel;have hk':k=0\/k=1\/k=2:=by omega
 rcases hk' with rfl | rfl | rfl
 ·have e0:(sD xs zs 0).length=0:=rfl;rw[e0];have e1:¬ ((xs.length:Int)<0):=by omega
  go_wp2;go_round;case rel=>exact ⟨1,by omega,by go_num,rfl⟩
  case measure=>simp[intOf]
 ·have e0:(sD xs zs 1).length=xs.length:=rfl;rw[e0];have e1:¬ ((xs.length:Int)+(ys.length:Int)<0):=by omega
  go_wp2;go_round;case rel=>exact ⟨2,by omega,by go_num,by show _=Value.int .i64 ((zs.length:Nat):Int);rw[HL.out];go_num⟩
  case measure=>simp[intOf]
 have e0:(sD xs zs 2).length=zs.length:=rfl;rw[e0];have hgr:=aaO zs.length w (by omega);go_wp2_with (go_at_call 99;refine hgr.mono ?_;rintro e w1 ⟨a,c,rfl,hbuf,hbel⟩);clear hgr;go_loopw [6,27] (fun v i w'=>∃ (k c:Nat) (a:Option Addr),k<=2/\i=aa k/\v=.slice a (sD xs zs k).length c/\bH w.heap.size w' a (sD xs zs k).length c (sD xs zs k)/\ah w w') (fun _ i _=>2-(intOf i).toNat);case atStart=>exact ⟨0,c,a,bh _,rfl,rfl,hbuf,hbel⟩
 case round=>
 obtain ⟨k,c',a',hk,rfl,rfl,AI,uz⟩:=hrel;clear hbuf hbel;have x1:=(uz.cell (p:=⟨B,0,none⟩) hB).trans h1;have x2:=(uz.cell (p:=⟨B,1,none⟩) hB).trans h2;have r1:=R1.below uz;have r2:=R2.below uz;have hk':k=0\/k=1\/k=2:=by omega
 rcases hk' with rfl | rfl | rfl
 ·have hb0:bH w.heap.size wr a' 0 c' []:=AI;have e0:(sD xs zs 0).length=0:=rfl;rw[e0];clear AI h1 h2 R1 R2;go_wp2_with (at_builtin;refine tQ rfl (.tmp 31) (.tmp 32) rfl hb0 a1 c1 xs rfl rfl r1 (by omega) uz.size ?_;intro a3 c3 w3 b3 l3);go_roundw;case rel=>exact ⟨1,c3,a3,by omega,by go_num,rfl,by rw[dW] at b3;exact b3,uz.trans l3⟩
  case measure=>simp[intOf]
 ·have hb0:bH w.heap.size wr a' xs.length c' xs:=AI;have e0:(sD xs zs 1).length=xs.length:=rfl;rw[e0];clear AI h1 h2 R1 R2;go_wp2_with (at_builtin;refine tQ rfl (.tmp 31) (.tmp 32) rfl hb0 a2 c2 ys rfl rfl r2 (by omega) uz.size ?_;intro a3 c3 w3 b3 l3);go_roundw;case rel=>exact ⟨2,c3,a3,by omega,by go_num,by rw[<- HL.out];rfl,by rw[<- HL.out,HZ.out] at b3;exact b3,uz.trans l3⟩
  case measure=>simp[intOf]
 have hb0:bH w.heap.size wr a' zs.length c' zs:=AI;have e0:(sD xs zs 2).length=zs.length:=rfl;rw[e0];clear AI h1 h2 R1 R2;go_wp2;go_ret;exact ⟨a',c',rfl,hb0.own,hb0.fits,uz⟩
theorem vi (B:Nat) (a1 a2:Option Addr) (c1 c2:Nat) (xs ys:List Int) (w:World) (h1:ad w B 0 (.slice a1 xs.length c1)) (h2:ad w B 1 (.slice a2 ys.length c2)) (hB:B<w.heap.size) (R1:aK w a1 xs) (R2:aK w a2 ys) (hx:xs.length<=1048576) (hy:ys.length<=1048576):Calls prog 52 #[aH B 2 2] w fun e w'=>∃ a c,e=.returned (.slice a (xs++ys).length c)/\aR w.heap.size w' a (xs++ys)/\(xs++ys).length<=c/\ah w w':=aaP B a1 a2 c1 c2 xs ys (xs++ys) rfl w h1 h2 hB R1 R2 hx hy
end
section
theorem Jh:(prog.info? 47).map (fun i=>(i.zero,i.size,i.bytes))=some (some (.agg #[aa 0,.string ⟨#[]⟩]),2,24):=by kernel_rfl
structure EG (g n:Nat) (es:List aB) (k:Nat) (W:World):Prop where
 done:∀ j,j<k->W.cell? ⟨g,j*2,none⟩=some (.int .i64 (bl es j).1)/\W.cell? ⟨g,j*2+1,none⟩=some (.string (bl es j).2)
 there:∀ j,j<n*2->(W.cell? ⟨g,j,none⟩).isSome=true
 free:∀ j,j<n*2->W.frozen? ⟨g,j,none⟩=false
 lt:g<W.heap.size
variable {g n k : Nat} {es : List aB} {w W W' : World}
theorem EG.below (h:EG g n es k W) (hb:ah W W'):EG g n es k W':=
  ⟨fun j hj=>⟨(hb.cell (p:=⟨g,j*2,none⟩) h.lt).trans (h.done j hj).1,(hb.cell (p:=⟨g,j*2+1,none⟩) h.lt).trans (h.done j hj).2⟩,
   fun j hj=>by rw[hb.cell (p:=⟨g,j,none⟩) h.lt];exact h.there j hj,fun j hj=>(hb.frozen (p:=⟨g,j,none⟩) h.lt).trans (h.free j hj),cv h.lt hb.size⟩
end
section
def iW:List aB->List Value
 | []=>[]
 | e :: r=>.int .i64 e.1 :: .string e.2 :: iW r
theorem EH:∀ es:List aB,(iW es).length=es.length*2
 | []=>rfl
 | e :: r=>by simp[iW,EH r];omega
theorem Ji:∀ (es:List aB) (e:aB),iW es ++ [aa e.1,.string e.2]=iW (es ++ [e])
 | [],e=>rfl
 | x :: r,e=>by simp[iW,<- Ji r e]
theorem EI:∀ (es:List aB) (j:Nat),j<es.length->(iW es)[j*2]? = some (aa (bl es j).1)/\(iW es)[j*2+1]? = some (.string (bl es j).2)
 | [],j,h=>by simp at h
 | e :: r,0,_=>⟨rfl,rfl⟩
 | e :: r,j+1,h=>by
  have:=EI r j (by simpa using h);have e1:(j+1)*2=j*2+1+1:=by omega
  have e2:bl (e :: r) (j+1)=bl r j:=rfl;rw[e1,e2];exact this
def fP (base:Nat) (w:World) (a:Option Addr) (n cap:Nat) (es:List aB):Prop:=n=es.length/\w.ownsRow base 47 2 (.slice a n cap) n (iW es)
variable {base n cap : Nat} {a : Option Addr} {w W : World} {es : List aB}
theorem fP.below (h:fP base w a n cap es) (hb:ah w W):fP base W a n cap es:=⟨h.1,vd h.2 hb⟩
theorem fP.alloc (h:fP base w a n cap es) (o:Obj):fP base (w.alloc o) a n cap es:=h.below ((aQ _ _).alloc (av _) o)
theorem PI (w:World) (hb:base<=w.heap.size):fP base (w.alloc (.cells #[] 47)) (some ⟨w.heap.size,0,none⟩) 0 0 []:=⟨rfl,uT w #[] 0 hb (bh _) rfl⟩
theorem fP.fits (h:fP base w a n cap es):n<=cap:=by
 rcases h.2.2 with ⟨h0,h1⟩ | ⟨g,c,cur,hv,_,_,hle,_⟩;·omega
 simp at hv;omega
def cU (base:Nat) (W:World) (a:Option Addr) (es:List aB):Prop:=es=[]\/∃ g,a=some ⟨g,0,none⟩/\base<=g/\EG g es.length es es.length W
theorem fP.own (h:fP base w a n cap es):cU base w a es:=by
 rcases h.2.2 with ⟨h0,h1⟩ | ⟨g,c,cur,hv,hg,hc,hle,_,hs,ht⟩
 ·left;exact sn (by rw[<- h.1];exact h1)
 right;simp at hv;have hcell:∀ j,w.cell? ⟨g,j,none⟩=cur[j]?:=fun j=>by unfold World.cell?;rw[hc];simp
 have hn:=h.1;have hget:∀ j,j<n*2->cur[j]? = (iW es)[j]?:=fun j hj=>by
  have e1:(cur.toList.take (n*2))[j]? = (iW es)[j]?:=by rw[ht]
  rw[yV hj] at e1;rw[<- DS,e1]
 refine ⟨g,hv.1,hg,⟨fun j hj=>?_,fun j hj=>?_,fun j hj=>?_,(nz.1 hc).1⟩⟩
 ·have:=EI es j hj;rw[hcell,hcell,hget _ (by omega),hget _ (by omega)];exact this
 ·rw[hcell];have:j<cur.size:=by omega
  simp[this]
 unfold World.frozen?;rw[hc];simp
theorem cU.row (h:cU base W a es):cW W a es:=by
 rcases h with h | ⟨g,rfl,_,hm⟩;·exact Or.inl h
 exact Or.inr ⟨g,0,rfl,hm.lt,fun j hj=>by rw[dW];exact hm.done j hj⟩
theorem cU.below {W':World} (h:cU base W a es) (hb:ah W W'):cU base W' a es:=h.imp id fun ⟨g,e,hg,hk⟩=>⟨g,e,hg,hk.below hb⟩
theorem cU.mono {base':Nat} (h:cU base W a es) (hb:base'<=base):cU base' W a es:=h.imp id fun ⟨g,e,hg,hk⟩=>⟨g,e,br hb hg,hk⟩
theorem PJ (u:Int) (v:ByteArray):∀ x ∈ [Value.int .i64 u,.string v],x.oneCell'=true:=by intro x h;simp at h;rcases h with rfl | rfl <;> rfl
theorem PK {ops:Array Oper} {rest:List Oper} {o:Oper} {A:Act} {Q:Exit->Act->World->Prop} (hgd:o.guard=none) (sl x:Operand) (ho:o.op=.call { callee:=.builtin .append,args:=#[sl,x],argTypes:=#[43,43] }) (hbuf:fP base w a n cap es) (u:Int) (v:ByteArray) (hs:A.eval sl=.slice a n cap) {H:Nat} (hH:w.heap.size=H) (hx:A.eval x=aH H 1 1) (hlen:n+1<=1048576) (hb:base<=w.heap.size) (h:∀ g' cap' w',fP base w' (some ⟨g',0,none⟩) (n+1) cap' (es ++ [(u,v)])->Below base w w'->wpList prog ops Q rest (A.put o.dst (aH g' (n+1) cap')) w'):wpList prog ops Q (o :: rest) A (w.alloc (.cells #[aa u,.string v] 47)):=by
 subst hH;obtain ⟨i0,hi,hz0,hz1,hz2⟩:=iv Jh;have hb2:=hbuf.alloc (.cells #[aa u,.string v] 47);refine qG _ hgd sl x 43 ho base 47 i0 (.agg #[aa 0,.string ⟨#[]⟩]) 2 24 underlying43 hi hz0 hz1 hz2 rfl (by omega) _ n _ hs hb2.2 ⟨w.heap.size,0,none⟩ 1 1 [aa u,.string v] hx rfl (uU (nA w _)) (PJ u v) (by omega) (by unfold maxLen;omega) (by omega) (by simp;omega) _ rfl ?_;intro g' cap' w' ho' hg' _ _;refine h g' cap' w' ⟨by rw[hbuf.1];simp,?_⟩ ?_
 ·rw[<- Ji];exact ho'
 exact mw ((aQ _ _).alloc hb _) hg' (fun g hg=>(hbuf.2.lt g hg).1) (by simp;omega)
def nN (s:ByteArray) (w:World) (e:Ending) (w':World):Prop:=∃ a c,e=.returned (.tuple #[.slice a (dy s).length c,.bool (dh s)])/\cU w.heap.size w' a (dy s)/\(dy s).length<=c/\ah w w'
theorem PL {s:ByteArray} {w w':World} {a:Option Addr} {c:Nat} (h:dh s=false) (hb:ah w w'):nN s w (.returned (.tuple #[.slice a 0 c,.bool false])) w':=by
 have hd:dy s=[]:=by rw[dy,h];rfl
 exact ⟨a,c,by rw[hd,h];rfl,by rw[hd];exact Or.inl rfl,by rw[hd];exact bh _,hb⟩
theorem aaQ {s:ByteArray} {w w':World} {a:Option Addr} {c:Nat} (h:dh s=true) (ho:cU w.heap.size w' a (eQ s (eN s))) (hc:eN s<=c) (hb:ah w w'):nN s w (.returned (.tuple #[.slice a (eN s) c,.bool true])) w':=by
 have hd:dy s=eQ s (eN s):=by rw[dy,h];rfl
 exact ⟨a,c,by rw[hd,h,lh],by rw[hd];exact ho,by rw[hd,lh];exact hc,hb⟩
theorem aaR (x:ByteArray):(jO x).size<=x.size:=by
 unfold jO;split;·exact nH _ _ _
 exact bh _
theorem Jj (s:ByteArray) (k:Nat) (hs:s.size<=281474976710656):pO (eQ s k):=fun j hj=>by rw[lh] at hj;rw[I7 s k j hj];have h1:=aaR (eM s j);have h2:=nH s ((j:Int)*16) 16;have h3:(eM s j).size<=s.size:=h2;simp only;omega
end
theorem PM {s:ByteArray} {W:World} {r:Bool} (hs:s.size<=281474976710656) (hr:ig s=r):Calls prog 67 #[.string s] W (aV (.tuple #[.agg #[aa (kF s),.string (jO s)],.bool r]) W):=(ZH s W hs).mono fun _ _ ⟨he,hb⟩=>⟨by rw[he,oA,hr],hb⟩
def EJ (s:ByteArray) (w:World) (e:Ending) (w':World):Prop:=∃ a c,e=.returned (.tuple #[.slice a (dy s).length c,.bool (dh s)])/\cU w.heap.size w' a (dy s)/\(dy s).length<=c/\ah w w'/\(dh s=true->fP w.heap.size w' a (dy s).length c (dy s))
theorem PN (s:ByteArray) (w:World) (hs:s.size<=281474976710656):Calls prog 27 #[.string s] w (EJ s w):=by
 have HN:Hid (∀ a c w',dh s=false->ah w w'->EJ s w (.returned (.tuple #[.slice a 0 c,.bool false])) w'):=fun a c w' h hb=>by obtain ⟨a',c',h1,h2,h3,h4⟩:=PL (a:=a) (c:=c) h hb;exact ⟨a',c',h1,h2,h3,h4,fun x=>absurd x (by rw[h];simp)⟩
 have HF:Hid (∀ k,dh s=true->k<s.size / 16->ig (eM s k)=true):=fun k h hk=>(wX h).2.2.2.1 k hk;have HD:Hid (dh s=true->fZ (eQ s (s.size / 16))=true):=fun h=>(wX h).2.2.2.2;have HY:Hid (∀ a c w',s.size<=192->s.size % 16=0->(∀ j,j<s.size / 16->ig (eM s j)=true)->fZ (eQ s (s.size / 16))=true->fP w.heap.size w' a (s.size / 16) c (eQ s (s.size / 16))->ah w w'->EJ s w (.returned (.tuple #[.slice a (s.size / 16) c,.bool true])) w'):=fun a c w' h1 h2 h3 h4 ho hb=>by
  obtain ⟨hi,hk⟩:=aaD h1 h2 h3 h4;have hd:dy s=eQ s (eN s):=by rw[dy,hi];rfl
  have hl:=lh s (eN s);rw[<- hk] at ho ⊢;refine ⟨a,c,by rw[hd,hi,hl],by rw[hd];exact ho.own,by rw[hd,hl];exact ho.fits,hb,fun _=>?_⟩;rw[hd,hl];exact ho
 obtain ⟨R,hR⟩:∃ R,EJ s w=R:=⟨_,rfl⟩;by_cases h1:192<(s.size:Int)
 ·have hi:dh s=false:=by
   cases h:dh s with
   | false=>rfl
   | true=>have:=(wX h).1;omega
  rw[hR] at HN ⊢;go_enter func27,ntmps27;go_wp2;exact HN.out _ _ _ hi (aA _ _)
 by_cases h2:s.size % 16=0
 ·have h2':((s.size:Int) % 16 != 0)=false:=by simp;omega
  have b0:=PI w (av _);have l0:=aA w (.cells #[] 47);rw[hR] at HN HY ⊢;clear hR;go_enter func27,ntmps27;go_wp2;go_loopw [4,5] (fun v i w'=>∃ (k c:Nat) (a:Option Addr),k<=s.size / 16/\(∀ j,j<k->ig (eM s j)=true)/\i=aa ((k:Int)*16)/\v=.slice a k c/\fP w.heap.size w' a k c (eQ s k)/\ah w w') (fun _ i _=>s.size-(intOf i).toNat);case atStart=>exact ⟨0,0,_,bh _,fun j hj=>absurd hj (uW _),rfl,rfl,b0,l0⟩
  case round=>
  obtain ⟨k,c,a,hk,hE,rfl,rfl,hbuf,hbel⟩:=hrel;clear b0 l0;by_cases hlt:k<s.size / 16
  ·have e1:(k:Int)*16<(s.size:Int):=by omega
   have hcs:(eM s k).size<=281474976710656:=by have:=nH s ((k:Int)*16) 16;unfold eM;omega
   have hpt:Hid (∀ W,Calls prog 16 #[.string s,aa ((k:Int)*16),aa 16] W (aV (.string (eM s k)) W)):=fun W=>lM _ _ _ _ hs;have HS:Hid (eQ s k ++ [(kF (eM s k),jO (eM s k))]=eQ s (k+1)):=Pq s k;by_cases hi:ig (eM s k)=true
   ·have HE:Hid (∀ j,j<k+1->ig (eM s j)=true):=fun j hj=>by
     by_cases e:j=k;·rw[e];exact hi
     exact hE j (by omega)
    clear hE;go_wp2_with (first
     | (go_at_call 16;refine (hpt.out _).mono ?_;rintro e w1 ⟨rfl,b1⟩;have f1:=hbel.trans (b1.mono hbel.size))
     | (go_at_call 67;refine (PM hcs hi).mono ?_;rintro e w2 ⟨rfl,b2⟩;have f2:=f1.trans (b2.mono f1.size);have u2:=((hbuf.below b1).below b2).alloc (.cells #[aa (kF (eM s k)),.string (jO (eM s k))] 47);have f3:=f2.alloc f2.size (.cells #[aa (kF (eM s k)),.string (jO (eM s k))] 47))
     | (at_builtin;refine PK rfl (.tmp 35) (.tmp 37) rfl u2 _ _ (by rfl) (H:=w2.heap.size+1) (by simp) (by rfl) (by omega) f3.size ?_;intro g1 dO w4 NQ yn))
    go_roundw;case rel=>exact ⟨k+1,dO,_,by omega,HE.out,by go_num,rfl,by rw[<- HS.out];exact NQ,f3.trans yn⟩
    case measure=>simp[intOf];omega
   have hi':ig (eM s k)=false:=by simpa using hi
   have hn:dh s=false:=by
    cases h:dh s with
    | false=>rfl
    | true=>exact absurd (HF.out k h hlt) hi
   clear hE;go_wp2_with (first
    | (go_at_call 16;refine (hpt.out _).mono ?_;rintro e w1 ⟨rfl,b1⟩;have f1:=hbel.trans (b1.mono hbel.size))
    | (go_at_call 67;refine (PM hcs hi').mono ?_;rintro e w2 ⟨rfl,b2⟩;have f2:=f1.trans (b2.mono f1.size);have f3:=f2.alloc f2.size (.cells #[aa (kF (eM s k)),.string (jO (eM s k))] 47);have f4:=f3.alloc f3.size (.cells #[] 47)))
   exact HN.out _ _ _ hn f4
  obtain rfl:k=s.size / 16:=by omega
  have e1:¬ ((s.size / 16:Nat):Int)*16<(s.size:Int):=by omega
  have hfit:=hbuf.fits;have hdl:Hid (∀ r,fZ (eQ s (s.size / 16))=r->Calls prog 68 #[.slice a (s.size / 16) c] wr (aV (.bool r) wr)):=fun r hr=>by have:=IU (a:=a) (c:=c) (W:=wr) (es:=eQ s (s.size / 16)) (by rw[lh];omega) (by rw[lh];exact hfit) (Jj s _ hs) hbuf.own.row hr;rw[lh] at this;exact this
  by_cases hd:fZ (eQ s (s.size / 16))=true
  ·go_wp2_with (go_at_call 68;refine (hdl.out true hd).mono ?_;rintro e w1 ⟨rfl,b1⟩);exact HY.out _ _ _ (by omega) h2 hE hd (hbuf.below b1) (hbel.trans (b1.mono hbel.size))
  have hd':fZ (eQ s (s.size / 16))=false:=by simpa using hd
  have hn:dh s=false:=by
   cases h:dh s with
   | false=>rfl
   | true=>exact absurd (HD.out h) hd
  go_wp2_with (go_at_call 68;refine (hdl.out false hd').mono ?_;rintro e w1 ⟨rfl,b1⟩;have f1:=hbel.trans (b1.mono hbel.size);have f2:=f1.alloc f1.size (.cells #[] 47));exact HN.out _ _ _ hn f2
 have h2':((s.size:Int) % 16 != 0)=true:=by simp;omega
 have hi:dh s=false:=by
  cases h:dh s with
  | false=>rfl
  | true=>exact absurd (wX h).2.1 h2
 rw[hR] at HN ⊢;go_enter func27,ntmps27;go_wp2;exact HN.out _ _ _ hi (aA _ _)
theorem EK (s:ByteArray) (w:World) (hs:s.size<=281474976710656):Calls prog 27 #[.string s] w (nN s w):=(PN s w hs).mono fun _ _ ⟨a,c,h1,h2,h3,h4,_⟩=>⟨a,c,h1,h2,h3,h4⟩
theorem aaS (n:Int) (h0 : -9223372036854775808<=n) (h1:n<=9223372036854775807):(Lit.int .i64 n).wf=true:=by simp[Lit.wf,IntKind.min,IntKind.max,IntKind.signed,IntKind.bits];omega
theorem aaT {s:ByteArray} {W:World} (hs:s.size<=281474976710656):Calls prog 247 #[.string s] W (aV (.tuple #[.agg #[aa (kF s),.string (jO s)],.bool (ig s)]) W):=ZG s W hs
theorem aaU (s:ByteArray) (k:Nat):k<eN s ↔ k*16<s.size/\k<13:=by unfold eN;omega
theorem aaV (s:ByteArray) (w:World) (hs:s.size<=281474976710656):Calls prog 228 #[.string s] w (nN s w):=by
 have hm:s.size<=maxLen:=by unfold maxLen;omega
 have HN:Hid (∀ a c w',dh s=false->ah w w'->nN s w (.returned (.tuple #[.slice a 0 c,.bool false])) w'):=fun a c w' h hb=>PL h hb;have HY:Hid (∀ a c w',dh s=true->cU w.heap.size w' a (eQ s (eN s))->eN s<=c->ah w w'->nN s w (.returned (.tuple #[.slice a (eN s) c,.bool true])) w'):=fun a c w' h1 ho hc hb=>aaQ h1 ho hc hb;obtain ⟨R,hR⟩:∃ R,nN s w=R:=⟨_,rfl⟩;rw[hR] at HN HY ⊢;clear hR;have hct:=aaU s;have b0:=PI w (av _);have l0:=aA w (.cells #[] 47);go_enter func228,ntmps228;go_wp2;go_loopw [4,5] (fun v i w'=>∃ (k c:Nat) (a:Option Addr),k<=eN s/\i=aa ((k:Int)*16)/\v=.slice a k c/\fP w.heap.size w' a k c (eQ s k)/\ah w w') (fun _ i _=>208-(intOf i).toNat);case atStart=>exact ⟨0,0,_,bh _,rfl,rfl,b0,l0⟩
 case round=>
 obtain ⟨k,c,a,hk,rfl,rfl,hbuf,hbel⟩:=hrel;clear b0 l0;by_cases hlt:k<eN s
 ·obtain ⟨h1,h2⟩:=(hct k).1 hlt;have e1:(k:Int)*16<(s.size:Int):=by omega
  have e2:(k:Int)*16<208:=by omega
  have hcs:(eM s k).size<=281474976710656:=by have:=nH s ((k:Int)*16) 16;unfold eM;omega
  have hpt:Hid (∀ W,Calls prog 12 #[.string s,aa ((k:Int)*16),aa 16] W fun e w'=>e=.returned (.string (eM s k))/\W=w'):=fun W=>(pM _ _ _ _ hm (aaS _ (by omega) (by omega)) (by decide)).mono fun _ _ h=>⟨h.1,h.2.symm⟩;have HS:Hid (eQ s k ++ [(kF (eM s k),jO (eM s k))]=eQ s (k+1)):=Pq s k;clear hct;go_wp2_with (first
   | (go_at_call 12;refine (hpt.out _).mono ?_;rintro e w1 ⟨rfl,rfl⟩)
   | (go_at_call 247;refine (aaT hcs).mono ?_;rintro e w2 ⟨rfl,b2⟩;have f2:=hbel.trans (b2.mono hbel.size);have u2:=(hbuf.below b2).alloc (.cells #[aa (kF (eM s k)),.string (jO (eM s k))] 47);have f3:=f2.alloc f2.size (.cells #[aa (kF (eM s k)),.string (jO (eM s k))] 47))
   | (at_builtin;refine PK rfl (.tmp 26) (.tmp 28) rfl u2 _ _ (by rfl) (H:=w2.heap.size+1) (by simp) (by rfl) (by omega) f3.size ?_;intro g1 dO w4 NQ yn))
  go_roundw;case rel=>exact ⟨k+1,dO,_,by omega,by go_num,rfl,by rw[<- HS.out];exact NQ,f3.trans yn⟩
  case measure=>simp[intOf];omega
 obtain rfl:k=eN s:=by omega
 have hfit:=hbuf.fits;have yq:Hid (Calls prog 73 #[.slice a (eN s) c] wr (aV (.string (dS (eQ s (eN s)))) wr)):=by have hc13:eN s<=13:=YR _ _;have:=PH a c (eQ s (eN s)) wr (by rw[lh];omega) (by rw[lh];exact hfit) (Jj s _ hs) hbuf.own.row;rw[lh] at this;exact this
 have hex:decide ((eN s:Int)*16<(s.size:Int))=false\/((eN s:Int)*16<(s.size:Int)/\decide ((eN s:Int)*16<208)=false):=by
  by_cases h:(eN s:Int)*16<(s.size:Int)
  ·right;refine ⟨h,?_⟩;simp;by_cases h13:eN s<13;·exact absurd ((hct _).2 ⟨by omega,h13⟩) hlt
   omega
  left;simpa using h
 clear hct hlt hk;by_cases h0:s.size=0
 ·have hI:dh s=true:=by rw[dh,bK h0];rfl
  have hemp:s.toList.isEmpty=true:=by rw[yU];have:s.data.toList=[]:=sn (by rw[<- dX];exact h0);rw[this];rfl
  rcases hex with e3 | ⟨e4,e3⟩
  ·go_wp2;exact HY.out _ _ _ hI hbuf.own hfit hbel
  exfalso;omega
 have hemp:s.toList.isEmpty=false:=by
  rw[yU];cases hl:s.data.toList with
  | nil=>rw[dX,hl] at h0;exact absurd rfl h0
  | cons x r=>rfl
 by_cases hP:((dS (eQ s (eN s))).toList == s.toList)=true
 ·have hI:dh s=true:=by rw[dh,hP,Od]
  rcases hex with e3 | ⟨e4,e3⟩;all_goals
   go_wp2_with (go_at_call 73;refine yq.out.mono ?_;rintro e w2 ⟨rfl,b2⟩);exact HY.out _ _ _ hI (hbuf.own.below b2) hfit (hbel.trans (b2.mono hbel.size))
 have hP':((dS (eQ s (eN s))).toList == s.toList)=false:=by simpa using hP
 have hI:dh s=false:=by rw[dh,hP',bA h0];rfl
 rcases hex with e3 | ⟨e4,e3⟩;all_goals
  go_wp2_with (go_at_call 73;refine yq.out.mono ?_;rintro e w2 ⟨rfl,b2⟩;have f2:=hbel.trans (b2.mono hbel.size);have f3:=f2.alloc f2.size (.cells #[] 47));exact HN.out _ _ _ hI f3
section
abbrev iX (k o s:Int) (a:Option Addr) (n c:Nat) (ae:Option Addr) (ne ce:Nat):Value:=.agg #[.int .i64 k,.int .i64 o,.int .i64 s,.slice a n c,.slice ae ne ce]
abbrev PO (k o s:Int) (a:Option Addr) (n c:Nat) (ae:Option Addr) (ne ce:Nat):List Value:=[.int .i64 k,.int .i64 o,.int .i64 s,.slice a n c,.slice ae ne ce]
def dI (d:ai):List aB:=if bg d.rc=2 then dy (aX d.aU 0 (bU d.rc)) else []
def vj (d:ai) (w:World) (e:Ending) (w':World):Prop:=
 ∃ (k o s:Int) (a:Option Addr) (n c:Nat) (ae:Option Addr) (ne ce:Nat),e=.returned (.tuple #[iX k o s a n c ae ne ce,.bool (kI d)])/\ah w w'/\
  (kI d=true->k=bg d.rc/\o=bI d.rc/\s=bU d.rc/\n=(aD d.rc).length/\n<=c/\aR w.heap.size w' a (aD d.rc)/\ne=(dI d).length/\ne<=ce/\cU w.heap.size w' ae (dI d))
theorem aaW {d:ai} {w w':World} {k o s:Int} {a:Option Addr} {n c:Nat} {ae:Option Addr} {ne ce:Nat} (h:kI d=false) (hb:ah w w'):vj d w (.returned (.tuple #[iX k o s a n c ae ne ce,.bool false])) w':=⟨k,o,s,a,n,c,ae,ne,ce,by rw[h],hb,fun h'=>by rw[h] at h';cases h'⟩
theorem aaX {d:ai} {w w':World} {a:Option Addr} {c:Nat} {ae:Option Addr} {ce:Nat} (h:kI d=true) (hb:ah w w') (hc:(aD d.rc).length<=c) (ho:aR w.heap.size w' a (aD d.rc)) (hce:(dI d).length<=ce) (hoe:cU w.heap.size w' ae (dI d)):vj d w (.returned (.tuple #[iX (bg d.rc) (bI d.rc) (bU d.rc) a (aD d.rc).length c ae (dI d).length ce,.bool true])) w':=⟨_,_,_,a,_,c,ae,_,ce,by rw[h],hb,fun _=>⟨rfl,rfl,rfl,rfl,hc,ho,rfl,hce,hoe⟩⟩
variable {w W W' : World} {d : ai} {s : aI} {k o t : Int} {a : Option Addr} {n c B : Nat}
theorem gA {base:Nat} {es:List aB} (h:cU base W a es) (hB:B<base) (j:Nat) (v:Value):cU base (W.setCell ⟨B,j,none⟩ v) a es:=by
 rcases h with h | ⟨g,e,hg,hk⟩;·exact Or.inl h
 refine Or.inr ⟨g,e,hg,?_⟩;have hne:∀ x,(⟨B,j,none⟩:Addr) ≠ ⟨g,x,none⟩:=fun x q=>by have:=(uR q).1;omega
 refine ⟨fun i hi=>?_,fun i hi=>?_,fun i hi=>?_,?_⟩
 ·rw[gH _ _ _ _ (hne _),gH _ _ _ _ (hne _)];exact hk.done i hi
 ·rw[gH _ _ _ _ (hne _)];exact hk.there i hi
 ·rw[iu];exact hk.free i hi
 have:=hk.lt;simpa [World.setCell] using this
abbrev EL (W:World) (B:Nat) (y0 y1 y2 y3 y4:Value):World:=((((W.setCell ⟨B,0,none⟩ y0).setCell ⟨B,1,none⟩ y1).setCell ⟨B,2,none⟩ y2).setCell ⟨B,3,none⟩ y3).setCell ⟨B,4,none⟩ y4
theorem EM {x0 x1 x2 x3 x4 y0 y1 y2 y3 y4:Value} (h:az B [x0,x1,x2,x3,x4] W):az B [y0,y1,y2,y3,y4] (EL W B y0 y1 y2 y3 y4):=((((h.set 0 y0).set 1 y1).set 2 y2).set 3 y3).set 4 y4
theorem EN {b:Nat} (h:Below b w W) (hb:b<=B) (y0 y1 y2 y3 y4:Value):Below b w (EL W B y0 y1 y2 y3 y4):=((((h.setCell (p:=⟨B,0,none⟩) hb y0).setCell (p:=⟨B,1,none⟩) hb y1).setCell (p:=⟨B,2,none⟩) hb y2).setCell (p:=⟨B,3,none⟩) hb y3).setCell (p:=⟨B,4,none⟩) hb y4
theorem PQ {base:Nat} {zs:List Int} (h:aR base W a zs) (hB:B<base) (y0 y1 y2 y3 y4:Value):aR base (EL W B y0 y1 y2 y3 y4) a zs:=((((h.set hB 0 y0).set hB 1 y1).set hB 2 y2).set hB 3 y3).set hB 4 y4
theorem aaY {base:Nat} {es:List aB} (h:cU base W a es) (hB:B<base) (y0 y1 y2 y3 y4:Value):cU base (EL W B y0 y1 y2 y3 y4) a es:=gA (gA (gA (gA (gA h hB 0 y0) hB 1 y1) hB 2 y2) hB 3 y3) hB 4 y4
structure wZ (w:World) (d:ai) (s:aI) (k o t:Int) (a:Option Addr) (n c B:Nat) (W:World):Prop where
 arg:fw w.heap.size d s W
 res:az (w.heap.size+1) (PO 0 0 0 none 0 0 none 0 0) W
 nb:az B (fO k o t a n c) W
 au:ah w W
theorem wZ.below (h:wZ w d s k o t a n c B W) (hb:ah W W'):wZ w d s k o t a n c B W':=⟨h.arg.below hb,h.res.below hb,h.nb.below hb,h.au.trans (hb.mono h.au.size)⟩
theorem wZ.drewN (h:wZ w d s k o t a n c B W) (m:Nat):wZ w d s k o t a n c B (W.drewN m):=⟨⟨h.arg.b.drewN m⟩,h.res.drewN m,h.nb.drewN m,gy h.au m⟩
abbrev PT (w:World) (d:ai) (s:aI):World:=(w.alloc (.cells #[.int .i64 d.ino,.int .i64 d.cl,.int .i64 d.un,.string d.rc,.slice s.a1 d.pg.length s.c1,.string d.aU,.slice s.a2 d.po.length s.c2,.slice s.a3 d.fr.length s.c3] 31)).alloc (.cells #[.int .i64 0,.int .i64 0,.int .i64 0,.slice none 0 0,.slice none 0 0] 125)
theorem EO (w:World) (d:ai) (s:aI):ah w (PT w d s):=((aQ _ _).alloc (av _) _).alloc (by simp) _
theorem EP (hb:ah (PT w d s) W):wZ w d s k o t a n c W.heap.size (W.alloc (.cells (bj k o t a n c) 35)):=
  ⟨⟨(((aY (jG d s) w 31).alloc _).below hb).alloc _⟩,((dR (PO 0 0 0 none 0 0 none 0 0) _ 125 (by simp)).below hb).alloc _,aY (fO k o t a n c) W 35,
   (((EO w d s).trans (hb.mono (EO w d s).size))).alloc (br (EO w d s).size hb.size) _⟩
end
theorem aaZ (d:ai):(bM d.rc=false/\kI d=false)\/(bM d.rc=true/\(bg d.rc == 0)=true/\kI d=false)\/(bM d.rc=true/\(bg d.rc == 0)=false/\decide (aD d.rc=d.pg)=false/\kI d=false)\/(bM d.rc=true/\(bg d.rc == 0)=false/\decide (aD d.rc=d.pg)=true/\((d.aU.size:Int) != (d.pg.length:Int)*32)=true/\kI d=false)\/(bM d.rc=true/\(bg d.rc == 0)=false/\decide (aD d.rc=d.pg)=true/\((d.aU.size:Int) != (d.pg.length:Int)*32)=false/\(bg d.rc != 2)=true/\kI d=true/\dI d=[])\/(bM d.rc=true/\(bg d.rc == 0)=false/\decide (aD d.rc=d.pg)=true/\((d.aU.size:Int) != (d.pg.length:Int)*32)=false/\(bg d.rc != 2)=false/\kI d=dh (aX d.aU 0 (bU d.rc))/\dI d=dy (aX d.aU 0 (bU d.rc))):=by
 unfold kI;cases hI:bM d.rc with
 | false=>exact Or.inl ⟨rfl,rfl⟩
 | true=>
  right;by_cases h0:bg d.rc=0
  ·left;exact ⟨rfl,by simpa using h0,by rw[bK h0];rfl⟩
  ·right;have h0':(bg d.rc == 0)=false:=by simpa using h0
   by_cases hz:aD d.rc=d.pg
   ·right;by_cases hs:d.aU.size=d.pg.length*32
    ·right;have hs':((d.aU.size:Int) != (d.pg.length:Int)*32)=false:=by simp;omega
     by_cases h2:bg d.rc=2
     ·right;refine ⟨rfl,h0',bK hz,hs',by simpa using h2,?_,by rw[dI,aN h2]⟩;rw[bA h0,bK hz,bK hs,bK h2];rfl
     left;refine ⟨rfl,h0',bK hz,hs',by simpa using h2,?_,by rw[dI,aM h2]⟩;rw[bA h0,bK hz,bK hs,bA h2];rfl
    left;refine ⟨rfl,h0',bK hz,by simp;omega,?_⟩;rw[bA hs,dC,eS,eS];rfl
   left;refine ⟨rfl,h0',bA hz,?_⟩;rw[bA hz,dC,eS];rfl
theorem aa0 (d:ai) (s:aI) (w:World) (hF:iV d s) (hR:cJ w d s):Calls prog 133 #[bL d s] w (vj d w):=by
 have hG:Hid (∀ W,_):=fun W=>BC d.rc W hF.m4;have HL:Hid (∀ W,ah w W->aK W s.a1 d.pg):=fun W hb=>(hR.below hb).r1;have hpt:Hid (∀ W,Calls prog 16 #[.string d.aU,aa 0,aa (bU d.rc)] W (aV (.string (aX d.aU 0 (bU d.rc))) W)):=fun W=>lM _ _ _ _ hF.m5;have hgd:Hid (∀ W,Calls prog 27 #[.string (aX d.aU 0 (bU d.rc))] W (nN (aX d.aU 0 (bU d.rc)) W)):=fun W=>EK _ _ (br (nH _ _ _) hF.m5);have hpl:d.pg.length<=281474976710656:=hF.p1;have hsl:=hF.m5;have VT:=EO w d s;have HN:Hid (∀ k o t a n c ae ne ce w',kI d=false->ah w w'->vj d w (.returned (.tuple #[iX k o t a n c ae ne ce,.bool false])) w'):=fun k o t a n c ae ne ce w' h hb=>aaW h hb;have HY:Hid (∀ a c ae ce w',kI d=true->ah w w'->(aD d.rc).length<=c->aR w.heap.size w' a (aD d.rc)->(dI d).length<=ce->cU w.heap.size w' ae (dI d)->vj d w (.returned (.tuple #[iX (bg d.rc) (bI d.rc) (bU d.rc) a (aD d.rc).length c ae (dI d).length ce,.bool true])) w'):=fun a c ae ce w' h hb hc ho hce hoe=>aaX h hb hc ho hce hoe;have hA:Hid (∀ W e w',gR d.rc W e w'->∃ a c,e=.returned (.tuple #[aO (bg d.rc) (bI d.rc) (bU d.rc) a (aD d.rc).length c,.bool (bM d.rc)])/\aR W.heap.size w' a (aD d.rc)/\(aD d.rc).length<=c/\ah W w'):=fun W e w' h=>h;have hzl:(aD d.rc).length<=281474976710656:=by
  unfold aD;split;·rw[uZ];have:=va d.rc;omega
  exact bh _
 have hcase:=aaZ d;obtain ⟨R,hR'⟩:∃ R,vj d w=R:=⟨_,rfl⟩;rw[hR'] at HN HY ⊢;obtain ⟨P,hP⟩:∃ P,aX d.aU 0 (bU d.rc)=P:=⟨_,rfl⟩;rw[hP] at hpt hgd hcase;obtain ⟨K,hK⟩:∃ K,bg d.rc=K:=⟨_,rfl⟩;obtain ⟨O,hO⟩:∃ O,bI d.rc=O:=⟨_,rfl⟩;obtain ⟨S,hS⟩:∃ S,bU d.rc=S:=⟨_,rfl⟩;obtain ⟨Z,hZ⟩:∃ Z,aD d.rc=Z:=⟨_,rfl⟩;rw[hK,hZ] at hcase;rw[hK,hO,hS,hZ] at HY hA;rw[hS] at hpt;rw[hZ] at hzl;clear hK hO hS hZ hP hR' hR hF;rcases hcase with ⟨gI,hp⟩ | ⟨gI,g0,hp⟩ | ⟨gI,g0,gz,hp⟩ | ⟨gI,g0,gz,gs,hp⟩ | ⟨gI,g0,gz,gs,g2,hp,hE⟩ | ⟨gI,g0,gz,gs,g2,hp,hE⟩;iterate 2
  ·rw[gI] at hA;clear gI;go_enter func133,ntmps133;go_wp2_with (go_at_call 184;refine (hG.out _).mono ?_;intro e w1 hans;obtain ⟨a,c,rfl,ho,hc,b1⟩:=hA.out _ _ _ hans;clear hans;have p1:=EP (k:=K) (o:=O) (t:=S) (a:=a) (n:=Z.length) (c:=c) b1;have x0:=p1.nb.c0;have i0:=p1.res.cell 0 (by simp);have i1:=p1.res.cell 1 (by simp);have i2:=p1.res.cell 2 (by simp);have i3:=p1.res.cell 3 (by simp);have i4:=p1.res.cell 4 (by simp);simp only[dK,eT] at i0 i1 i2 i3 i4;have j0:=p1.res.free 0 (by simp);have j1:=p1.res.free 1 (by simp);have j2:=p1.res.free 2 (by simp);have j3:=p1.res.free 3 (by simp);have j4:=p1.res.free 4 (by simp));have q:=EM (y0:=aa 0) (y1:=aa 0) (y2:=aa 0) (y3:=.slice none 0 0) (y4:=.slice none 0 0) p1.res;have v0:=q.cell 0 (by simp);have v1:=q.cell 1 (by simp);have v2:=q.cell 2 (by simp);have v3:=q.cell 3 (by simp);have v4:=q.cell 4 (by simp);simp only[dK,eT] at v0 v1 v2 v3 v4;exact bF (v:=.tuple #[iX 0 0 0 none 0 0 none 0 0,.bool false]) (by simp[results,results133,go_sem,v0,v1,v2,v3,v4]) rfl (HN.out _ _ _ _ _ _ _ _ _ _ hp (EN p1.au (by omega) _ _ _ _ _))
 iterate 2
  ·rw[gI] at hA;clear gI;go_enter func133,ntmps133;go_wp2_with (first
    | (go_at_call 184;refine (hG.out _).mono ?_;intro e w1 hans;obtain ⟨a,c,rfl,ho,hc,b1⟩:=hA.out _ _ _ hans;clear hans;have p1:=EP (k:=K) (o:=O) (t:=S) (a:=a) (n:=Z.length) (c:=c) b1;have x0:=p1.nb.c0;have x3:=p1.nb.c3;have c4:=p1.arg.c4;have c5:=p1.arg.c5;have r1:=ho.row.alloc (.cells (bj K O S a Z.length c) 35);have r2:=HL.out _ p1.au;have i0:=p1.res.cell 0 (by simp);have i1:=p1.res.cell 1 (by simp);have i2:=p1.res.cell 2 (by simp);have i3:=p1.res.cell 3 (by simp);have i4:=p1.res.cell 4 (by simp);simp only[dK,eT] at i0 i1 i2 i3 i4;have j0:=p1.res.free 0 (by simp);have j1:=p1.res.free 1 (by simp);have j2:=p1.res.free 2 (by simp);have j3:=p1.res.free 3 (by simp);have j4:=p1.res.free 4 (by simp))
    | (go_at_call 185;refine (Jf _ _ _ _ _ _ _ hzl hpl r1 r2).mono ?_;rintro e w2 ⟨rfl,m,rfl⟩))
   have q:=EM (y0:=aa 0) (y1:=aa 0) (y2:=aa 0) (y3:=.slice none 0 0) (y4:=.slice none 0 0) (p1.drewN m).res;have v0:=q.cell 0 (by simp);have v1:=q.cell 1 (by simp);have v2:=q.cell 2 (by simp);have v3:=q.cell 3 (by simp);have v4:=q.cell 4 (by simp);simp only[dK,eT] at v0 v1 v2 v3 v4;exact bF (v:=.tuple #[iX 0 0 0 none 0 0 none 0 0,.bool false]) (by simp[results,results133,go_sem,v0,v1,v2,v3,v4]) rfl (HN.out _ _ _ _ _ _ _ _ _ _ hp (EN (p1.drewN m).au (by omega) _ _ _ _ _))
 ·rw[gI] at hA;clear gI;rw[hE] at HY;go_enter func133,ntmps133;go_wp2_with (first
   | (go_at_call 184;refine (hG.out _).mono ?_;intro e w1 hans;obtain ⟨a,c,rfl,ho,hc,b1⟩:=hA.out _ _ _ hans;clear hans;have p1:=EP (k:=K) (o:=O) (t:=S) (a:=a) (n:=Z.length) (c:=c) b1;have x0:=p1.nb.c0;have x1:=p1.nb.c1;have x2:=p1.nb.c2;have x3:=p1.nb.c3;have c4:=p1.arg.c4;have c5:=p1.arg.c5;have r1:=ho.row.alloc (.cells (bj K O S a Z.length c) 35);have r2:=HL.out _ p1.au;have i0:=p1.res.cell 0 (by simp);have i1:=p1.res.cell 1 (by simp);have i2:=p1.res.cell 2 (by simp);have i3:=p1.res.cell 3 (by simp);have i4:=p1.res.cell 4 (by simp);simp only[dK,eT] at i0 i1 i2 i3 i4;have j0:=p1.res.free 0 (by simp);have j1:=p1.res.free 1 (by simp);have j2:=p1.res.free 2 (by simp);have j3:=p1.res.free 3 (by simp);have j4:=p1.res.free 4 (by simp))
   | (go_at_call 185;refine (Jf _ _ _ _ _ _ _ hzl hpl r1 r2).mono ?_;rintro e w2 ⟨rfl,m,rfl⟩))
  have q:=EM (y0:=aa K) (y1:=aa O) (y2:=aa S) (y3:=.slice a Z.length c) (y4:=.slice none 0 0) (p1.drewN m).res;have v0:=q.cell 0 (by simp);have v1:=q.cell 1 (by simp);have v2:=q.cell 2 (by simp);have v3:=q.cell 3 (by simp);have v4:=q.cell 4 (by simp);simp only[dK,eT] at v0 v1 v2 v3 v4;refine bF (v:=.tuple #[iX K O S a Z.length c none 0 0,.bool true]) (by simp[results,results133,go_sem,v0,v1,v2,v3,v4]) rfl (HY.out a c none 0 _ hp (EN (p1.drewN m).au (by omega) _ _ _ _ _) hc ?_ (av _) (Or.inl rfl));exact (PQ ((ho.alloc _).drewN m) (by simp) _ _ _ _ _).mono (by simp;omega)
 rw[gI] at hA;clear gI;rw[hE] at HY;have HD:Hid (∀ W e w',nN P W e w'->∃ a c,e=.returned (.tuple #[.slice a (dy P).length c,.bool (dh P)])/\cU W.heap.size w' a (dy P)/\(dy P).length<=c/\ah W w'):=fun W e w' h=>h;have HP:Hid (kI d=dh P):=hp;clear hp hE;go_enter func133,ntmps133;go_wp2_with (first
  | (go_at_call 184;refine (hG.out _).mono ?_;intro e w1 hans;obtain ⟨a,c,rfl,ho,hc,b1⟩:=hA.out _ _ _ hans;clear hans;have p1:=EP (k:=K) (o:=O) (t:=S) (a:=a) (n:=Z.length) (c:=c) b1;have x0:=p1.nb.c0;have x1:=p1.nb.c1;have x2:=p1.nb.c2;have x3:=p1.nb.c3;have c4:=p1.arg.c4;have c5:=p1.arg.c5;have r1:=ho.row.alloc (.cells (bj K O S a Z.length c) 35);have r2:=HL.out _ p1.au)
  | (go_at_call 185;refine (Jf _ _ _ _ _ _ _ hzl hpl r1 r2).mono ?_;rintro e w2 ⟨rfl,m,rfl⟩)
  | (go_at_call 16;refine (hpt.out _).mono ?_;rintro e w3 ⟨rfl,b3⟩;have p3:=(p1.drewN m).below b3)
  | (go_at_call 27;refine (hgd.out _).mono ?_;intro e w4 hans;obtain ⟨ae,ce,rfl,hoe,hce,b4⟩:=HD.out _ _ _ hans;clear hans;have p4:=p3.below b4;have z0:=p4.nb.c0;have z1:=p4.nb.c1;have z2:=p4.nb.c2;have z3:=p4.nb.c3;have i0:=p4.res.cell 0 (by simp);have i1:=p4.res.cell 1 (by simp);have i2:=p4.res.cell 2 (by simp);have i3:=p4.res.cell 3 (by simp);have i4:=p4.res.cell 4 (by simp);simp only[dK,eT] at i0 i1 i2 i3 i4;have j0:=p4.res.free 0 (by simp);have j1:=p4.res.free 1 (by simp);have j2:=p4.res.free 2 (by simp);have j3:=p4.res.free 3 (by simp);have j4:=p4.res.free 4 (by simp)))
 have q:=EM (y0:=aa K) (y1:=aa O) (y2:=aa S) (y3:=.slice a Z.length c) (y4:=.slice ae (dy P).length ce) p4.res;have v0:=q.cell 0 (by simp);have v1:=q.cell 1 (by simp);have v2:=q.cell 2 (by simp);have v3:=q.cell 3 (by simp);have v4:=q.cell 4 (by simp);simp only[dK,eT] at v0 v1 v2 v3 v4;have hbl:=EN p4.au (B:=w.heap.size+1) (by omega) (aa K) (aa O) (aa S) (.slice a Z.length c) (.slice ae (dy P).length ce);have h1:=p1.au.size;have h3:=p3.au.size;refine bF (v:=.tuple #[iX K O S a Z.length c ae (dy P).length ce,.bool (dh P)]) (by simp[results,results133,go_sem,v0,v1,v2,v3,v4]) rfl ?_;cases hD:dh P with
 | false=>exact HN.out _ _ _ _ _ _ _ _ _ _ (HP.out.trans hD) hbl
 | true=>
  refine HY.out a c ae ce _ (HP.out.trans hD) hbl hc ?_ hce ?_;·exact (PQ ((((ho.alloc _).drewN m).below b3).below b4) (by simp) _ _ _ _ _).mono (by simp;omega)
  ·exact (aaY hoe (by have:=p3.res.lt;omega) _ _ _ _ _).mono (by omega)
end Go.Proofs.YtgpfmgaidbjcpaaGreatDoor
