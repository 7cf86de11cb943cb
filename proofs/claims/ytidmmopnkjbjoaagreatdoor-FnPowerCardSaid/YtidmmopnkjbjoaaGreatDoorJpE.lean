/- Joined texts. -/
import Derived.Test.YtidmmopnkjbjoaaGreatDoorJpC
import Derived.Test.YtidmmopnkjbjoaaGreatDoorJpD
set_option linter.unusedVariables false
set_option linter.unusedSimpArgs false
set_option maxRecDepth 10000
set_option maxHeartbeats 16000000
namespace Go.Proofs.YtidmmopnkjbjoaaGreatDoor
open ChangeShapes WideShapes ChangeAt RowKit
open Go.Proofs.Tryz
abbrev aV:=Int × ByteArray
def sw (o e:aV):Bool:=(o.2.toList == e.2.toList) || (o.1 == e.1)
def iy (es:List aV) (e:aV):Bool:=es.any fun o=>sw o e
def bS (es:List aV) (k:Nat):aV:=es.getD k (0,⟨#[]⟩)
theorem qG (es:List aV) (k:Nat) (h:k<es.length):bS es k=es[k]:=by simp[bS,List.getD,h]
theorem Oj (es:List aV) (k:Nat) (e:aV) (h:k<es.length):iy (es.take (k+1)) e=(iy (es.take k) e || sw (bS es k) e):=by rw[iy,iy,kr h,Nq,qG es k h];simp
theorem Ol {es:List aV} {k n:Nat} {e:aV} (hk:k<n) (hn:n<=es.length) (h:sw (bS es k) e=true):iy (es.take n) e=true:=by rw[iy,Ht];refine ⟨bS es k,?_,h⟩;rw[qG es k (by omega)];exact uK.2 ⟨k,by simp;omega,by simp⟩
def pO (es:List aV) (i:Nat):Bool:=eR (bS es i).1 (bS es i).2 && !(iy (es.take i) (bS es i))
def nr (es:List aV) (k:Nat):Bool:=(List.range k).all (pO es)
def gL (es:List aV):Bool:=decide (es.length<=12) && nr es es.length
theorem Om (es:List aV) (k:Nat):nr es (k+1)=(nr es k && pO es k):=by simp[nr,wF]
theorem On {es:List aV} {k n:Nat} (hk:k<n) (h:pO es k=false):nr es n=false:=by rw[nr,WM];exact ⟨k,mA.2 hk,by rw[h];decide⟩
theorem It {es:List aV} {k:Nat} (hk:k<es.length) (h:pO es k=false):gL es=false:=by rw[gL,On hk h,dU]
def ma (es:List aV):Nat->ByteArray
 | 0=>⟨#[]⟩
 | k+1=>ma es k++gG (bS es k).1 (bS es k).2
def gu (es:List aV):ByteArray:=if gL es then ma es es.length else ⟨#[]⟩
theorem Iu {i:Int} {s:ByteArray} (h:eR i s=true):(gG i s).size=16:=by have:=Ec (Bh h).1;rw[gG,aF h,fk,Xw,ni];omega
theorem Bs {es:List aV} {k:Nat} (h:pO es k=true):eR (bS es k).1 (bS es k).2=true/\iy (es.take k) (bS es k)=false:=by simp only[pO,cj,lV] at h;exact h
theorem Ek {es:List aV} {n k:Nat} (h:nr es n=true) (hk:k<n):pO es k=true:=by
 cases hb:pO es k with
 | true=>rfl
 | false=>rw[On hk hb] at h;cases h
theorem Iw {es:List aV} {n:Nat} (h:nr es n=true):∀ k,k<=n->(ma es k).size=16*k
 | 0,_=>rfl
 | k+1,hk=>by rw[ma,fk,Iw h k (by omega),Iu (Bs (Ek h (by omega:k<n))).1];omega
def mE (W:World) (a:Option Addr) (es:List aV):Prop:=es=[]\/∃ b off,a=some ⟨b,off,none⟩/\b<W.heap.size/\∀ j,j<es.length->W.cell? ⟨b,off+j*2,none⟩=some (.int .i64 (bS es j).1)/\W.cell? ⟨b,off+j*2+1,none⟩=some (.string (bS es j).2)
theorem mE.below {W W':World} {a:Option Addr} {es:List aV} (h:mE W a es) (hb:aj W W'):mE W' a es:=by
 rcases h with h | ⟨b,off,ha,hlt,hc⟩;·exact Or.inl h
 exact Or.inr ⟨b,off,ha,cS hlt hb.size,fun j hj=>⟨(hb.cell (p:=⟨b,off+j*2,none⟩) hlt).trans (hc j hj).1,(hb.cell (p:=⟨b,off+j*2+1,none⟩) hlt).trans (hc j hj).2⟩⟩
theorem mE.get {W:World} {a:Option Addr} {es:List aV} {k:Nat} (h:mE W a es) (hk:k<es.length):∃ b off,a=some ⟨b,off,none⟩/\b<W.heap.size/\∀ j,j<es.length->af W b (off+j*2) (ad (bS es j).1)/\af W b (off+j*2+1) (.string (bS es j).2):=by
 rcases h with h | h
 ·subst h;simp at hk
 exact h
def El (es:List aV):Prop:=∀ j,j<es.length->(bS es j).2.size<=281474976710656
def dP (s:ByteArray) (j:Nat):ByteArray:=aO s ((j:Int)*16) 16
def dX (s:ByteArray) (k:Nat):List aV:=(List.range k).map fun (j:Nat)=>(jU (dP s j),jl (dP s j))
theorem kZ (s:ByteArray) (k:Nat):(dX s k).length=k:=by simp[dX]
theorem Oo (s:ByteArray) (k:Nat):dX s k ++ [(jU (dP s k),jl (dP s k))]=dX s (k+1):=by simp[dX,wF]
theorem Iy (s:ByteArray) (k j:Nat) (h:j<k):bS (dX s k) j=(jU (dP s j),jl (dP s j)):=by rw[qG _ _ (by rw[kZ];exact h)];simp[dX]
def dQ (s:ByteArray):Nat:=min ((s.size+15) / 16) 13
def cO (s:ByteArray):Bool:=decide (s.size=0) || ((gu (dX s (dQ s))).toList == s.toList)
def dI (s:ByteArray):List aV:=if cO s then dX s (dQ s) else []
theorem Oq {a b:ByteArray} (h:a.toList=b.toList):a=b:=by rw[pH,pH] at h;exact gm (jB.1 h)
theorem XX (s:ByteArray) (j:Nat) (h:(j+1)*16<=s.size):dP s j=s.extract (j*16) (j*16+16):=by rw[dP,aO,show cZ s.size ((j:Int)*16) 16=true from bF (by omega),aF rfl,show ((j:Int)*16).toNat=j*16 by omega,show ((j:Int)*16+16).toNat=j*16+16 by omega]
theorem XY {x:ByteArray} (h:gJ x=true):gG (jU x) (jl x)=x:=by have h2:=h;simp only[gJ,cj,qB] at h2;rw[jU,jl,aF h,aF h];exact Oq h2.2
theorem Ot {x:ByteArray} (h:gJ x=false):jU x=0/\jl x=⟨#[]⟩:=by simp[jU,jl,h]
theorem XZ:eR 0 ⟨#[]⟩=false:=by rw[eR,show aW 0 1 7=false from by decide,dU]
theorem X1 (s:ByteArray) (a b:Nat) (h1:a<=b) (h2:b<=s.size):s.extract 0 a++s.extract a b=s.extract 0 b:=by apply gm;apply jB.1;simp only[mz,rX,pE,DT,AR];rw[<- Nt,show a+(b-a)=b by omega]
theorem Ou (s:ByteArray) (n:Nat) (hE:∀ j,j<n->gJ (dP s j)=true):∀ k,k<=n->k*16<=s.size->ma (dX s n) k=s.extract 0 (k*16)
 | 0,_,_=>by apply gm;simp[ma]
 | k+1,hk,hs=>by rw[ma,Ou s n hE k (by omega) (by omega),Iy s n k (by omega),XY (hE k (by omega)),XX s k (by omega),X1 s _ _ (by omega) (by omega),show k*16+16=(k+1)*16 by omega]
theorem X4 (s:ByteArray):s.extract 0 s.size=s:=by apply gm;apply jB.1;rw[pE];simp only[DT,AR];exact qx (by rw[<- cV];exact aq _)
theorem X5 {s:ByteArray} (h1:s.size<=192) (h2:s.size % 16=0) (hE:∀ j,j<s.size / 16->gJ (dP s j)=true) (hD:gL (dX s (s.size / 16))=true):cO s=true/\dQ s=s.size / 16:=by
 have hc:dQ s=s.size / 16:=by unfold dQ;omega
 refine ⟨?_,hc⟩;rw[cO,hc];have:gu (dX s (s.size / 16))=s:=by rw[gu,aF hD,kZ,Ou s _ hE _ (aq _) (by omega),show s.size / 16*16=s.size by omega];exact X4 s
 rw[this];simp
theorem uQ {s:ByteArray} (h:cO s=true):s.size<=192/\s.size % 16=0/\dQ s=s.size / 16/\(∀ j,j<s.size / 16->gJ (dP s j)=true)/\gL (dX s (s.size / 16))=true:=by
 by_cases h0:s.size=0
 ·refine ⟨by omega,by omega,by unfold dQ;omega,fun j hj=>by omega,?_⟩;rw[h0];rfl
 rw[cO,bq h0,Hu] at h;have he:gu (dX s (dQ s))=s:=Oq (by simpa using h);have hD:gL (dX s (dQ s))=true:=by
  cases hb:gL (dX s (dQ s)) with
  | true=>rfl
  | false=>
   rw[gu,hb] at he;have:=fK ByteArray.size he;exact absurd this.symm h0
 have hd:=hD;simp only[gL,cj,dC] at hd;rw[kZ] at hd;have hsz:s.size=16*dQ s:=by have:=Iw hd.2 (dQ s) (aq _);rw[gu,aF hD,kZ] at he;rw[he] at this;exact this
 have hc:dQ s=s.size / 16:=by omega
 rw[<- hc];refine ⟨by omega,by omega,rfl,fun j hj=>?_,hD⟩;cases hb:gJ (dP s j) with
 | true=>rfl
 | false=>
  have h1:=(Bs (Ek hd.2 hj)).1;rw[Iy s _ j hj,(Ot hb).1,(Ot hb).2,XZ] at h1;cases h1
def bW (s:ByteArray):Nat:=min (fC (cm s 2)).toNat 12
def cu (s:ByteArray) (k:Nat):List Int:=(List.range k).map fun (j:Nat)=>aP s (4+(j:Int))
theorem wK (s:ByteArray) (k:Nat):(cu s k).length=k:=by simp[cu]
theorem Ov (s:ByteArray) (k:Nat):cu s k ++ [aP s (4+(k:Int))]=cu s (k+1):=by simp[cu,wF]
def sx (s:ByteArray):ByteArray:=dO (aP s 0) (aP s 1) (cm s 2) (cu s (bW s))
def bp (s:ByteArray):Bool:=decide (s.size=16) && ((sx s).toList == s.toList)
def aX (s:ByteArray):Int:=if bp s then aP s 0 else 0
def cq (s:ByteArray):Int:=if bp s then aP s 1 else 0
def bX (s:ByteArray):Int:=if bp s then cm s 2 else 0
def aN (s:ByteArray):List Int:=if bp s then cu s (bW s) else []
theorem Iz (s:ByteArray) (i:Int):0<=cm s i/\cm s i<=65535:=by
 unfold cm;split
 ·rename_i h;have h1:=(s[i.toNat]'(by omega)).toNat_lt;have h2:=(s[(i+1).toNat]'(by omega)).toNat_lt;omega
 omega
theorem X6 {x:Int} (h:0<=x):0<=fC x:=by unfold fC;omega
theorem wL (s:ByteArray):bW s<=12:=Nat.min_le_right _ _
theorem Ox (s:ByteArray) (k:Nat):k<bW s ↔ (k:Int)<fC (cm s 2)/\k<12:=by have:=X6 (Iz s 2).1;unfold bW;omega
theorem yV {s:ByteArray} (h:bp s=true):s.size=16/\(sx s).toList=s.toList/\eH (aP s 0) (aP s 1) (cm s 2) (cu s (bW s))=true:=by
 simp only[bp,cj,dC,qB] at h;refine ⟨h.1,h.2,?_⟩;cases hok:eH (aP s 0) (aP s 1) (cm s 2) (cu s (bW s)) with
 | true=>rfl
 | false=>
  have h2:=h.2;rw[sx,dO,hok,aG (by decide)] at h2;have h3:=fK List.length h2;rw[pH,pH,<- cV,<- cV] at h3;rw[h.1] at h3;exact absurd h3 (by decide)
theorem Oy {s:ByteArray} (h16:s.size=16) (h:((sx s).toList == s.toList)=true):bp s=true:=by rw[bp,bF h16,h];rfl
theorem Oz {s:ByteArray} (h:((sx s).toList == s.toList)=false):bp s=false:=by rw[bp,h,dU]
theorem OA {s:ByteArray} (h:¬ s.size=16):bp s=false:=by rw[bp,bq h,dH]
theorem X7 {s:ByteArray} (h:eH (aP s 0) (aP s 1) (cm s 2) (cu s (bW s))=false):bp s=false:=by
 cases hi:bp s with
 | false=>rfl
 | true=>rw[(yV hi).2.2] at h;cases h
theorem wM {s:ByteArray} (h:bp s=false):aX s=0/\cq s=0/\bX s=0/\aN s=[]:=by simp[aX,cq,bX,aN,h]
theorem yW {s:ByteArray} (h:bp s=true):aX s=aP s 0/\cq s=aP s 1/\bX s=cm s 2/\aN s=cu s (bW s):=by simp[aX,cq,bX,aN,h]
def ar (mem:ByteArray) (i:Int):ByteArray:=aO mem (bA i) 16
def dj (mem:ByteArray) (zs:List Int):Nat->ByteArray
 | 0=>⟨#[]⟩
 | k+1=>dj mem zs k++aO mem (zs.getD k 0*32) 32
theorem Em {mem:ByteArray} (hm:mem.size=768) {z:Int} (h0:5<=z) (h1:z<=23):(aO mem (z*32) 32).size=32:=by
 rw[aO,show cZ mem.size (z*32) 32=true from bF (by omega),aF rfl,lU]
 omega
theorem Bt {mem:ByteArray} (hm:mem.size=768) {zs:List Int} (hp:dW zs=true):∀ k,k<=zs.length->(dj mem zs k).size=32*k
 | 0,_=>rfl
 | k+1,h=>by have hz:=wJ hp (k:=k) (by omega);rw[dj,fk,Bt hm hp k (by omega),Em hm hz.1 hz.2];omega
def dY (mem:ByteArray) (i:Int):Bool:=decide (mem.size=768) && (bp (ar mem i) && !decide (aP (ar mem i) 0=0))
def mF (mem:ByteArray) (i:Int):Int:=if dY mem i then aX (ar mem i) else 0
def qH (mem:ByteArray) (i:Int):Int:=if dY mem i then cq (ar mem i) else 0
def jV (mem:ByteArray) (i:Int):Int:=if dY mem i then bX (ar mem i) else 0
def mG (mem:ByteArray) (i:Int):List Int:=if dY mem i then aN (ar mem i) else []
def qI (mem:ByteArray) (i:Int):ByteArray:=if dY mem i then (dj mem (aN (ar mem i)) (aN (ar mem i)).length).extract 0 (bX (ar mem i)).toNat else ⟨#[]⟩
theorem En {mem:ByteArray} {i:Int} (h:dY mem i=false):mF mem i=0/\qH mem i=0/\jV mem i=0/\mG mem i=[]/\qI mem i=⟨#[]⟩:=by simp[mF,qH,jV,mG,qI,h]
theorem wO {mem:ByteArray} {i:Int} (h:dY mem i=true):mF mem i=aX (ar mem i)/\qH mem i=cq (ar mem i)/\jV mem i=bX (ar mem i)/\mG mem i=aN (ar mem i)/\qI mem i=(dj mem (aN (ar mem i)) (aN (ar mem i)).length).extract 0 (bX (ar mem i)).toNat:=by simp[mF,qH,jV,mG,qI,h]
theorem Ya {mem:ByteArray} {i:Int} (h:bp (ar mem i)=false):dY mem i=false:=by rw[dY,h,dH,dU]
theorem OB {mem:ByteArray} {i:Int} (h1:mem.size=768) (h2:bp (ar mem i)=true) (h3:¬ aP (ar mem i) 0=0):dY mem i=true:=by rw[dY,bF h1,h2,bq h3];rfl
theorem yX (mem:ByteArray) (i:Int) (h:mem.size<=281474976710656):(ar mem i).size<=281474976710656:=by have:=nn mem (bA i) 16;unfold ar;omega
theorem mH {s:ByteArray} (h:bp s=true):(0<=bX s/\bX s<=192)/\(aN s).length<=6/\bX s<=32*((aN s).length:Int)/\dW (aN s)=true/\(0<=aX s/\aX s<=2):=by have hb:=Br (yV h).2.2;obtain ⟨e1,e2,e3,e4⟩:=yW h;rw[e1,e3,e4];refine ⟨hb.2.2.1,hb.2.2.2.1,?_,hb.2.2.2.2.2,hb.1⟩;rw[hb.2.2.2.2.1];unfold fC;omega
structure ak where
 ino:Int
 cl:Int
 un:Int
 rc:ByteArray
 pg:List Int
 aH:ByteArray
 po:List Int
 fr:List Int
def bC (f:Nat->Bool) (k:Nat):Bool:=(List.range k).all f
theorem Yb (f:Nat->Bool):bC f 0=true:=rfl
theorem IA (f:Nat->Bool) (k:Nat):bC f (k+1)=(bC f k && f k):=by simp[bC,wF]
theorem iN {f:Nat->Bool} {k:Nat}:bC f k=true ↔ ∀ i,i<k->f i=true:=by simp[bC,AV]
theorem jD {f:Nat->Bool} {k n:Nat} (hk:k<n) (h:f k=false):bC f n=false:=by
 cases e:bC f n with
 | false=>rfl
 | true=>rw[iN.1 e k hk] at h;cases h
theorem jW {f:Nat->Bool} {k:Nat} (h:bC f k=true) (hf:f k=true):bC f (k+1)=true:=by rw[IA,h,hf];rfl
def qJ (zs:List Int) (i:Nat):Bool:=decide (i=0) || decide (zs.getD (i-1) 0<zs.getD i 0)
def dJ (zs:List Int):Bool:=bC (qJ zs) zs.length
def uR (zs:List Int) (a b:Int) (i:Nat):Bool:=aW (zs.getD i 0) a b && qJ zs i
def iz (zs:List Int) (a b:Int):Bool:=bC (uR zs a b) zs.length
def qK (pg po:List Int) (i:Nat):Bool:=!(bN pg (po.getD i 0))
def jn (pg po:List Int):Bool:=bC (qK pg po) po.length
def Eo (zs al:List Int) (i:Nat):Bool:=bN al (zs.getD i 0)
def ku (zs al:List Int):Bool:=bC (Eo zs al) zs.length
def nt (fr:List Int) (ino:Int) (i:Nat):Bool:=aW (fr.getD i 0) 1 7 && !decide (fr.getD i 0=ino)
def jo (d:ak):Bool:=bp d.rc && (!decide (aX d.rc=0) && (decide (aN d.rc=d.pg) && (decide (d.aH.size=d.pg.length*32) && (!decide (aX d.rc=2) || cO (aO d.aH 0 (bX d.rc))))))
def ny (d:ak):Bool:=decide (0<=d.ino) && (decide (d.ino<8) && (decide (0<=d.cl) && (decide (d.cl<=8) && decide (0<=d.un))))
def IB (d:ak):Bool:=decide (d.po.length<=4) && (dJ d.po && dW (aN d.rc++d.po))
def Ep (d:ak):Bool:=if aX d.rc=2 then decide (d.fr.length<=2) && (dJ d.fr && bC (nt d.fr d.ino) d.fr.length) else decide (d.fr.length=0)
def bT (d:ak):Bool:=jo d && (ny d && (IB d && Ep d))
def ky (d:ak):Bool:=bp d.rc && (!decide (aX d.rc=0) && (aW d.ino 0 7 && (aW d.cl 0 8 && (!decide (d.un<0) && (decide (aN d.rc=d.pg) && decide (d.aH.size=d.pg.length*32))))))
def uS (d:ak):Bool:=!decide (aX d.rc=2) || cO (aO d.aH 0 (bX d.rc))
def mI (d:ak):Bool:=iz d.po 5 23 && (decide (d.po.length<=4) && (iz d.fr 1 7 && (decide (d.fr.length<=2) && (!(bN d.fr d.ino) && (decide (aX d.rc=2) || decide (d.fr.length=0))))))
def uT (d:ak):Bool:=ky d && (jn d.pg d.po && (uS d && mI d))
theorem kz {zs:List Int} {i:Nat} (h:i<zs.length):zs.getD i 0 ∈ zs:=by rw[eS _ _ h];exact nQ h
theorem wP {zs:List Int} {z:Int} (h:z ∈ zs):∃ i,i<zs.length/\zs.getD i 0=z:=by obtain ⟨i,hi,e⟩:=uK.1 h;exact ⟨i,hi,by rw[eS _ _ hi];exact e⟩
theorem uU {l:List Int} {x:Int}:bN l x=true ↔ x ∈ l:=by unfold bN;exact Nr
theorem Bu {l:List Int} {x:Int}:bN l x=false ↔ ¬ x ∈ l:=by rw[<- uU];cases bN l x <;> simp
theorem jE {z a b:Int}:aW z a b=true ↔ a<=z/\z<=b:=by unfold aW;simp
theorem mJ {zs:List Int}:dW zs=true ↔ (∀ z ∈ zs,5<=z/\z<=23)/\zs.Nodup:=by
 have h0:dW zs=bC (pM zs) zs.length:=rfl;rw[h0,iN];constructor
 ·intro h;refine ⟨fun z hz=>?_,?_⟩
  ·obtain ⟨i,hi,rfl⟩:=wP hz;have:=h i hi;simp only[pM,cj] at this;exact jE.1 this.1
  rw[List.Nodup,sc];intro i j hi hj hij e;have:=h j hj;simp only[pM,cj,lV] at this;have h2:=Ih (zs:=zs) hij (iH hj);rw[eS _ _ hi,e,<- eS _ _ hj,this.2] at h2;cases h2
 rintro ⟨h1,h2⟩ i hi;simp only[pM,cj,lV];refine ⟨jE.2 (h1 _ (kz hi)),Bu.2 fun hm=>?_⟩;obtain ⟨j,hj,e⟩:=uK.1 hm;have hj':j<i:=by simp at hj;omega
 rw[Nk,eS _ _ hi] at e;rw[List.Nodup,sc] at h2;exact h2 j i (by omega) hi hj' e
theorem Er {zs:List Int}:dJ zs=true ↔ zs.Pairwise (· < ·):=by
 unfold dJ;rw[iN,sc];constructor
 ·intro h i j hi hj hij;induction j with
  | zero=>omega
  | succ j ih=>
   have hs:=h (j+1) hj;simp only[qJ,kY,dC,Nat.add_sub_cancel] at hs;have hs':zs[j]<zs[j+1]:=by
    rcases hs with hs | hs;·omega
    rw[eS _ _ (by omega),eS _ _ hj] at hs;exact hs
   by_cases e:i=j
   ·subst e;exact hs'
   ·exact Int.lt_trans (ih (by omega) (by omega)) hs'
 intro h i hi;simp only[qJ,kY,dC];by_cases e:i=0;·exact Or.inl e
 right;rw[eS _ _ (by omega),eS _ _ hi];exact h (i-1) i (by omega) hi (by omega)
theorem Yc {zs:List Int} (h:dJ zs=true):zs.Nodup:=(Er.1 h).imp fun h e=>by omega
theorem wQ {zs:List Int} {a b:Int}:iz zs a b=true ↔ (∀ z ∈ zs,a<=z/\z<=b)/\dJ zs=true:=by
 unfold iz dJ;rw[iN,iN];constructor
 ·intro h;refine ⟨fun z hz=>?_,fun i hi=>?_⟩
  ·obtain ⟨i,hi,rfl⟩:=wP hz;have:=h i hi;simp only[uR,cj] at this;exact jE.1 this.1
  have:=h i hi;simp only[uR,cj] at this;exact this.2
 rintro ⟨h1,h2⟩ i hi;simp only[uR,cj];exact ⟨jE.2 (h1 _ (kz hi)),h2 i hi⟩
theorem OC {pg po:List Int}:jn pg po=true ↔ ∀ z ∈ po,¬ z ∈ pg:=by
 unfold jn;rw[iN];constructor
 ·intro h z hz;obtain ⟨i,hi,rfl⟩:=wP hz;have:=h i hi;simp only[qK,lV] at this;exact Bu.1 this
 intro h i hi;simp only[qK,lV];exact Bu.2 (h _ (kz hi))
theorem OD {fr:List Int} {ino:Int}:bC (nt fr ino) fr.length=true ↔ (∀ z ∈ fr,1<=z/\z<=7)/\¬ ino ∈ fr:=by
 rw[iN];constructor
 ·intro h;refine ⟨fun z hz=>?_,fun hm=>?_⟩
  ·obtain ⟨i,hi,rfl⟩:=wP hz;have:=h i hi;simp only[nt,cj] at this;exact jE.1 this.1
  obtain ⟨i,hi,e⟩:=wP hm;have:=h i hi;simp only[nt,cj,lV,qy] at this;exact this.2 e
 rintro ⟨h1,h2⟩ i hi;simp only[nt,cj,lV,qy];exact ⟨jE.2 (h1 _ (kz hi)),fun e=>h2 (e ▸ kz hi)⟩
theorem Bv (d:ak):uT d=bT d:=by
 rw[qC];by_cases hP:ky d=true
 ·have h:=hP;simp only[ky,cj,lV,dC,qy,jE] at h;obtain ⟨hI,hk,hi,hc,hu,hz,hs⟩:=h;have hg:=mH hI;have fN:=mJ.1 hg.2.2.2.1;rw[hz] at fN;simp only[uT,bT,hP,jo,ny,IB,hI,hk,hz,hs,cj,fe,decide_true,decide_false,Bool.not_false,dC,uS,mI];rw[OC,wQ,wQ,mJ];constructor
  ·rintro ⟨h1,h2,⟨h3,h4⟩,h5,⟨h6,h7⟩,h8,h9,h10⟩;refine ⟨h2,⟨by omega,by omega,by omega,by omega,by omega⟩,⟨h5,h4,?_,?_⟩,?_⟩
   ·intro z hz';rcases gP.1 hz' with h | h;·exact fN.1 z h
    exact h3 z h
   ·exact WQ.2 ⟨fN.2,Yc h4,fun a ha b hb e=>h1 b hb (e ▸ ha)⟩
   unfold Ep;by_cases k2:aX d.rc=2
   ·rw[aF k2];simp only[cj,dC];exact ⟨h8,h7,OD.2 ⟨h6,Bu.1 (by simpa using h9)⟩⟩
   rw[aG k2];simp only[k2,decide_false,Hu,dC,kY,false_or] at h10;simpa using h10
  rintro ⟨h2,⟨n1,n2,n3,n4,n5⟩,⟨h5,h4,h3,hnd⟩,hf⟩;have hnd':=WQ.1 hnd;have hfr:iz d.fr 1 7=true/\d.fr.length<=2/\(!bN d.fr d.ino)=true/\(decide (aX d.rc=2) || decide (d.fr.length=0))=true:=by
   unfold Ep at hf;by_cases k2:aX d.rc=2
   ·rw[aF k2] at hf;simp only[cj,dC] at hf;obtain ⟨f1,f2,f3⟩:=hf;obtain ⟨f4,f5⟩:=OD.1 f3;exact ⟨wQ.2 ⟨f4,f2⟩,f1,by simpa using Bu.2 f5,by simp[k2]⟩
   rw[aG k2] at hf;have h0:d.fr=[]:=mW (by simpa using hf);rw[h0];exact ⟨rfl,by decide,rfl,by simp⟩
  obtain ⟨q1,q2,q3,q4⟩:=hfr;exact ⟨fun z hz' hz2=>hnd'.2.2 z hz2 z hz' rfl,h2,⟨fun z hz'=>h3 z (gP.2 (Or.inr hz')),h4⟩,h5,wQ.1 q1,q2,q3,q4⟩
 have h1:ky d=false:=by simpa using hP
 simp only[uT,h1,dH,Bool.false_eq_true,false_iff];intro hl;apply hP;simp only[bT,jo,ny,cj,dC] at hl;obtain ⟨⟨a1,a2,a3,a4,a5⟩,⟨b1,b2,b3,b4,b5⟩,-⟩:=hl;simp only[ky,cj,dC,jE];exact ⟨a1,a2,⟨b1,by omega⟩,⟨b3,b4⟩,by simp;omega,a3,a4⟩
theorem iO {d:ak} (h:bT d=true):bp d.rc=true/\aX d.rc≠0/\aN d.rc=d.pg/\d.aH.size=d.pg.length*32/\(0<=d.ino/\d.ino<=7)/\(0<=d.cl/\d.cl<=8)/\d.pg.length<=6/\d.po.length<=4/\d.fr.length<=2/\dW (d.pg++d.po)=true/\(∀ z ∈ d.fr,1<=z/\z<=7)/\dJ d.po=true/\dJ d.fr=true:=by have h':=h;rw[<- Bv] at h';simp only[uT,ky,mI,cj,dC,jE,lV,qy] at h';obtain ⟨⟨a1,a2,a3,a4,a5,a6,a7⟩,-,-,b1,b2,b3,b4,-⟩:=h';simp only[bT,IB,cj] at h;have hp:=h.2.2.1.2.2;rw[a6] at hp;have:=(mH a1).2.1;rw[a6] at this;exact ⟨a1,a2,a6,a7,a3,a4,this,b2,b4,hp,(wQ.1 b3).1,(wQ.1 b1).2,(wQ.1 b3).2⟩
section
open Go.Joins
section
variable {H : Type} {enc : TypeId × Value → H} {w : World}
end
abbrev bU (zs:List Int):List Value:=zs.map fun z=>.int .i64 z
theorem wR {W:World} {g:Nat} {zs:List Int} (h:av g (bU zs) W):aI W (some ⟨g,0,none⟩) zs:=by refine Or.inr ⟨g,0,rfl,h.lt,fun j hj=>?_⟩;rw[cR,h.cell j (by simpa using hj)];simp[List.getD,hj]
theorem tL:(prog.info? 3).map (fun i=>(i.zero,i.size,i.bytes))=some (some (ad 0),1,8):=by kernel_rfl
end
section
def bo (base:Nat) (w:World) (a:Option Addr) (n cap:Nat) (zs:List Int):Prop:=n=zs.length/\w.ownsRow base 3 1 (.slice a n cap) n (bU zs)
variable {base n cap : Nat} {a : Option Addr} {w W : World} {zs : List Int}
theorem fQ {B B0:Nat} {vs:List Value} (h:av B vs w) (hb:Below B0 w W) (hlt:B<B0):av B vs W:=⟨fun j hj=>(hb.cell (p:=⟨B,j,none⟩) hlt).trans (h.cell j hj),fun j hj=>(hb.frozen (p:=⟨B,j,none⟩) hlt).trans (h.free j hj),cS h.lt hb.size⟩
theorem bo.below (h:bo base w a n cap zs) (hb:aj w W):bo base W a n cap zs:=⟨h.1,uO h.2 hb⟩
theorem bo.alloc (h:bo base w a n cap zs) (o:Obj):bo base (w.alloc o) a n cap zs:=h.below ((aK _ _).alloc (aq _) o)
theorem bo.drew (h:bo base w a n cap zs):bo base w.drew a n cap zs:=h
theorem bo.drewN (h:bo base w a n cap zs) (m:Nat):bo base (w.drewN m) a n cap zs:=h
theorem Es (w:World):bo base w none 0 0 []:=⟨rfl,rfl,Or.inl ⟨rfl,rfl⟩⟩
theorem fq (w:World) (hb:base<=w.heap.size):bo base (w.alloc (.cells #[] 3)) (some ⟨w.heap.size,0,none⟩) 0 0 []:=⟨rfl,tu w #[] 0 hb (aS _) rfl⟩
theorem bo.fits (h:bo base w a n cap zs):n<=cap:=by
 rcases h.2.2 with ⟨h0,h1⟩ | ⟨g,c,cur,hv,_,_,hle,_⟩;·omega
 simp at hv;omega
def aQ (base:Nat) (W:World) (a:Option Addr) (zs:List Int):Prop:=zs=[]\/∃ g,a=some ⟨g,0,none⟩/\base<=g/\av g (bU zs) W
theorem bo.own (h:bo base w a n cap zs):aQ base w a zs:=by
 rcases h.2.2 with ⟨h0,h1⟩ | ⟨g,c,cur,hv,hg,hc,hle,_,hs,ht⟩
 ·left;exact mW (by rw[<- h.1];exact h1)
 right;simp at hv;refine ⟨g,hv.1,hg,⟨fun j hj=>?_,fun j hj=>?_,(mY.1 hc).1⟩⟩
 ·have hcell:w.cell? ⟨g,j,none⟩=cur[j]?:=by
   unfold World.cell?;rw[hc];simp
  have hj':j<zs.length:=by simpa using hj
  have e1:(cur.toList.take (n*1))[j]? = (bU zs)[j]?:=by rw[ht]
  rw[AW (by have:=h.1;omega)] at e1;rw[hcell,<- Hq,e1];simp[hj']
 unfold World.frozen?;rw[hc];simp
theorem aQ.row (h:aQ base W a zs):aI W a zs:=by
 rcases h with h | ⟨g,rfl,_,hb⟩;·exact Or.inl h
 exact wR hb
theorem aQ.below {W':World} (h:aQ base W a zs) (hb:aj W W'):aQ base W' a zs:=by
 rcases h with h | ⟨g,e,hg,hk⟩;·exact Or.inl h
 exact Or.inr ⟨g,e,hg,hk.below hb⟩
theorem aQ.alloc (h:aQ base W a zs) (o:Obj):aQ base (W.alloc o) a zs:=h.below ((aK _ _).alloc (aq _) o)
theorem aQ.drew (h:aQ base W a zs):aQ base W.drew a zs:=h.imp id fun ⟨g,e,hg,hk⟩=>⟨g,e,hg,hk.drew⟩
theorem aQ.drewN (h:aQ base W a zs) (m:Nat):aQ base (W.drewN m) a zs:=h.imp id fun ⟨g,e,hg,hk⟩=>⟨g,e,hg,hk.drewN m⟩
theorem aQ.mono {base':Nat} (h:aQ base W a zs) (hb:base'<=base):aQ base' W a zs:=by
 rcases h with h | ⟨g,e,hg,hk⟩;·exact Or.inl h
 exact Or.inr ⟨g,e,bt hb hg,hk⟩
theorem aQ.set (h:aQ base W a zs) {B:Nat} (hB:B<base) (j:Nat) (v:Value):aQ base (W.setCell ⟨B,j,none⟩ v) a zs:=by
 rcases h with h | ⟨g,e,hg,hk⟩;·exact Or.inl h
 exact Or.inr ⟨g,e,hg,hk.aR (by omega) j v⟩
theorem Et (c:Int):∀ u ∈ [Value.int .i64 c],u.oneCell'=true:=by intro u h;simp at h;subst h;rfl
theorem tM (h:bo base w a n cap zs):∀ g,(Value.slice a n cap).ownBlock=some g->base<=g:=fun g hg=>(h.2.lt g hg).1
theorem Eu (zs:List Int) (z:Int):bU zs ++ [ad z]=bU (zs ++ [z]):=by simp
theorem yY {ops:Array Oper} {rest:List Oper} {o:Oper} {A:Act} {Q:Exit->Act->World->Prop} (hgd:o.guard=none) (sl x:Operand) (ho:o.op=.call { callee:=.builtin .append,args:=#[sl,x],argTypes:=#[29,29] }) (hbuf:bo base w a n cap zs) (z:Int) (hs:A.eval sl=.slice a n cap) (hx:A.eval x=bg w.heap.size 1 1) (hlen:n+1<=1048576) (hb:base<=w.heap.size) (h:∀ g' cap' w',bo base w' (some ⟨g',0,none⟩) (n+1) cap' (zs ++ [z])->Below base w w'->wpList prog ops Q rest (A.put o.dst (bg g' (n+1) cap')) w'):wpList prog ops Q (o :: rest) A (w.alloc (.cells #[ad z] 3)):=by
 obtain ⟨i0,hi,hz0,hz1,hz2⟩:=iW tL;have hb2:=hbuf.alloc (.cells #[ad z] 3);refine rY _ hgd sl x 29 ho base 3 i0 (ad 0) 1 8 underlying29 hi hz0 hz1 hz2 rfl (by omega) _ n _ hs hb2.2 ⟨w.heap.size,0,none⟩ 1 1 [ad z] hx rfl (rZ (pF w _)) (Et z) (by omega) (by unfold maxLen;omega) (by omega) (by simp;omega) _ rfl ?_;intro g' cap' w' ho' hg' _ _;refine h g' cap' w' ⟨by rw[hbuf.1];simp,?_⟩ ?_
 ·rw[<- Eu];exact ho'
 exact lY ((aK _ _).alloc hb _) hg' (tM hbuf) (by simp;omega)
theorem Yd {ops:Array Oper} {o:Oper} {A:Act} {K:Act->World->Prop} {Q:Exit->Act->World->Prop} {E:Prop} (hgd:o.guard=none) (sl x:Operand) (ho:o.op=.call { callee:=.builtin .append,args:=#[sl,x],argTypes:=#[29,29] }) (hbuf:bo base w a n cap zs) (z:Int) (hs:A.eval sl=.slice a n cap) (hx:A.eval x=bg w.heap.size 1 1) (hlen:n+1<=1048576) (hb:base<=w.heap.size) (h:∀ g' cap' w',bo base w' (some ⟨g',0,none⟩) (n+1) cap' (zs ++ [z])->Below base w w'->K (A.put o.dst (bg g' (n+1) cap')) w'):if Region.wanted o (yielded ops A.tmps)=true then Oper.wp prog o A (w.alloc (.cells #[ad z] 3)) K Q else E:=by
 obtain ⟨i0,hi,hz0,hz1,hz2⟩:=iW tL;have hb2:=hbuf.alloc (.cells #[ad z] 3);refine step_append_lies _ hgd sl x 29 ho base 3 i0 (ad 0) 1 8 underlying29 hi hz0 hz1 hz2 rfl (by omega) _ n _ hs hb2.2 ⟨w.heap.size,0,none⟩ 1 1 [ad z] hx rfl (rZ (pF w _)) (Et z) (by omega) (by unfold maxLen;omega) (by omega) (by simp;omega) _ rfl ?_;intro g' cap' w' ho' hg' _ _;refine h g' cap' w' ⟨by rw[hbuf.1];simp,?_⟩ ?_
 ·rw[<- Eu];exact ho'
 exact lY ((aK _ _).alloc hb _) hg' (tM hbuf) (by simp;omega)
end
section
open Go.Joins Go.Deep
structure aA where
 a1:Option Addr
 c1:Nat
 a2:Option Addr
 c2:Nat
 a3:Option Addr
 c3:Nat
abbrev eI (d:ak) (s:aA):List Value:=[.int .i64 d.ino,.int .i64 d.cl,.int .i64 d.un,.string d.rc,.slice s.a1 d.pg.length s.c1,.string d.aH,.slice s.a2 d.po.length s.c2,.slice s.a3 d.fr.length s.c3]
abbrev bH (d:ak) (s:aA):Value:=.agg #[.int .i64 d.ino,.int .i64 d.cl,.int .i64 d.un,.string d.rc,.slice s.a1 d.pg.length s.c1,.string d.aH,.slice s.a2 d.po.length s.c2,.slice s.a3 d.fr.length s.c3]
abbrev dZ (d:ak) (s:aA):Array Value:=#[.int .i64 d.ino,.int .i64 d.cl,.int .i64 d.un,.string d.rc,.slice s.a1 d.pg.length s.c1,.string d.aH,.slice s.a2 d.po.length s.c2,.slice s.a3 d.fr.length s.c3]
structure dq (W:World) (d:ak) (s:aA):Prop where
 r1:aI W s.a1 d.pg
 r2:aI W s.a2 d.po
 r3:aI W s.a3 d.fr
structure jX (d:ak) (s:aA):Prop where
 p1:d.pg.length<=281474976710656
 m4:d.rc.size<=281474976710656
 m5:d.aH.size<=281474976710656
variable {W W' : World} {d : ak} {s : aA}
theorem dq.below (h:dq W d s) (hb:aj W W'):dq W' d s:=⟨h.r1.below hb,h.r2.below hb,h.r3.below hb⟩
theorem dq.alloc (h:dq W d s) (o:Obj):dq (W.alloc o) d s:=⟨h.r1.alloc o,h.r2.alloc o,h.r3.alloc o⟩
section
variable {H : Type} {enc : TypeId × Value → H} {w : World}
end
structure fL (B:Nat) (d:ak) (s:aA) (W:World):Prop where
 b:av B (eI d s) W
variable {B : Nat}
theorem fL.c0 (h:fL B d s W):af W B 0 (ad d.ino):=h.b.cell 0 (by simp)
theorem fL.c1 (h:fL B d s W):af W B 1 (ad d.cl):=h.b.cell 1 (by simp)
theorem fL.c2 (h:fL B d s W):af W B 2 (ad d.un):=h.b.cell 2 (by simp)
theorem fL.c3 (h:fL B d s W):af W B 3 (.string d.rc):=h.b.cell 3 (by simp)
theorem fL.c4 (h:fL B d s W):af W B 4 (.slice s.a1 d.pg.length s.c1):=h.b.cell 4 (by simp)
theorem fL.c5 (h:fL B d s W):af W B 5 (.string d.aH):=h.b.cell 5 (by simp)
theorem fL.c6 (h:fL B d s W):af W B 6 (.slice s.a2 d.po.length s.c2):=h.b.cell 6 (by simp)
theorem fL.c7 (h:fL B d s W):af W B 7 (.slice s.a3 d.fr.length s.c3):=h.b.cell 7 (by simp)
theorem fL.below (h:fL B d s W) (hb:aj W W'):fL B d s W':=⟨h.b.below hb⟩
theorem lf (d:ak) (s:aA) (w:World) (T:TypeId):fL w.heap.size d s (w.alloc (.cells (dZ d s) T)):=⟨bu (eI d s) w T⟩
end
theorem qL (a:Option Addr) (c:Nat) (zs:List Int) (x:Int) (w:World) (hbig:zs.length<=281474976710656) (hR:aI w a zs):Calls prog 70 #[.slice a zs.length c,ad x] w (dp (.bool (bN zs x)) w):=by
 by_cases h0:zs=[]
 ·subst h0;go_enter func70,ntmps70;go_wp2;go_loop [5] (fun i=>i=ad 0) (fun _=>0)
  case atStart=>rfl
  case round=>
  subst hrel;go_wp2;go_ret;exact ⟨rfl,rfl⟩
 rcases hR with h | ⟨b,off,rfl,hb,hc⟩;·exact absurd h h0
 have:=Ii b off zs.length c zs x w (aq _) hbig hc;rw[ks] at this;exact this
theorem Ye (a:Option Addr) (c:Nat) (zs:List Int) (x:Int) (w:World) (hbig:zs.length<=281474976710656) (hR:aI w a zs):Calls prog 131 #[.slice a zs.length c,ad x] w (dp (.bool (bN zs x)) w):=by
 by_cases h0:zs=[]
 ·subst h0;exact Tryz.slices_Contains_int_empty a c x w
 rcases hR with h | ⟨b,off,rfl,hb,hc⟩;·exact absurd h h0
 have:=NY b off zs.length c zs x w (aq _) hbig hc;rw[ks] at this;exact this
theorem Bw (a:Option Addr) (c:Nat) (zs:List Int) (w:World) (hbig:zs.length<=281474976710656) (hR:aI w a zs):Calls prog 36 #[.slice a zs.length c] w fun e w'=>e=.returned (.bool (dJ zs))/\∃ n,w'=w.drewN n:=by
 go_enter func36,ntmps36;go_wp2;go_loopw [3] (fun i w'=>∃ k n:Nat,1<=k/\(k<=zs.length\/k=1)/\bC (qJ zs) k=true/\i=ad k/\w'=w.drewN n) (fun i _=>zs.length-(intOf i).toNat);case atStart=>exact ⟨1,0,aq _,Or.inr rfl,rfl,rfl,rfl⟩
 case round=>
 obtain ⟨k,n,hk1,hk,hok,rfl,hW⟩:=hrel;have HW:Hid (∀ m,∃ m',wr.drewN m=w.drewN m'):=fun m=>⟨n+m,by rw[hW,tp]⟩;by_cases hlt:k<zs.length
 ·have hR':aI wr a zs:=by rw[hW];exact hR.drewN n
  obtain ⟨b,off,rfl,hb,hc⟩:=hR'.get hlt;have x1:=hc k hlt;have x2:=hc (k-1) (by omega);have hat:qJ zs k=(decide (k=0) || decide (zs.getD (k-1) 0<zs.getD k 0)):=rfl;obtain ⟨z,ez⟩:∃ z,zs.getD k 0=z:=⟨_,rfl⟩;obtain ⟨y,ey⟩:∃ y,zs.getD (k-1) 0=y:=⟨_,rfl⟩;rw[ez] at x1 hat;rw[ey] at x2 hat;have e1:(0:Int)<=(k:Int):=by omega
  have e2:(k:Int)<(zs.length:Int):=by omega
  have e3:(0:Int)<=(k:Int)-1:=by omega
  have e4:(k:Int)-1<(zs.length:Int):=by omega
  have e5:((k:Int)-1).toNat=k-1:=by omega
  by_cases h:z<=y
  ·have HR:Hid (dJ zs=false):=jD hlt (by rw[hat,bq (by omega),bq (by omega)];rfl);clear hat hok ez ey hc hR hR' hW;go_wp2;go_quiet (fail);go_wp2;go_ret;exact ⟨bQ HR.out.symm,HW.out _⟩
  have h':decide (z<=y)=false:=by simpa using h
  have HO:Hid (bC (qJ zs) (k+1)=true):=jW hok (by rw[hat,bF (show y<z by omega),Hv]);clear hat hok ez ey hc hR hR' hW;go_wp2;go_quiet (fail);go_wp2;obtain ⟨m',hm'⟩:=HW.out nq;go_roundw;case rel=>exact ⟨k+1,m',by omega,Or.inl (by omega),HO.out,by go_num,hm'⟩
  case measure=>simp[intOf];omega
 have HR:Hid (dJ zs=true):=by
  show bC (qJ zs) zs.length=true
  exact iN.2 fun i hi=>iN.1 hok i (by omega)
 have HW0:Hid (wr=w.drewN n):=hW;have e6:decide ((k:Int)<(zs.length:Int))=false:=by simp;omega
 clear hok hR hW;go_wp2;go_ret;exact ⟨bQ HR.out.symm,n,HW0.out⟩
def uV (xs ys:List Int) (i:Nat):Bool:=decide (xs.getD i 0=ys.getD i 0)
theorem OE {xs ys:List Int} (hl:xs.length=ys.length) (h:bC (uV xs ys) xs.length=true):xs=ys:=by apply List.ext_getElem hl;intro i h1 h2;have:=iN.1 h i h1;simp only[uV,dC] at this;rwa [eS _ _ h1,eS _ _ h2] at this
theorem OF {xs ys:List Int} {k:Nat} (hk:¬ xs.getD k 0=ys.getD k 0):¬ xs=ys:=fun e=>hk (by rw[e])
theorem IC (a1 a2:Option Addr) (c1 c2:Nat) (xs ys:List Int) (w:World) (hb1:xs.length<=281474976710656) (hb2:ys.length<=281474976710656) (h1:aI w a1 xs) (h2:aI w a2 ys):Calls prog 218 #[.slice a1 xs.length c1,.slice a2 ys.length c2] w fun e w'=>e=.returned (.bool (decide (xs=ys)))/\∃ n,w'=w.drewN n:=by
 by_cases hl:xs.length=ys.length
 ·have hl':((xs.length:Int) != (ys.length:Int))=false:=by simp;omega
  go_enter func218,ntmps218;go_wp2;go_loopw [13] (fun i w'=>∃ k n:Nat,k<=xs.length/\bC (uV xs ys) k=true/\i=ad k/\w'=w.drewN n) (fun i _=>xs.length-(intOf i).toNat);case atStart=>exact ⟨0,0,aS _,rfl,rfl,rfl⟩
  case round=>
  obtain ⟨k,n,hk,hok,rfl,hW⟩:=hrel;have HW:Hid (∀ m,∃ m',wr.drewN m=w.drewN m'):=fun m=>⟨n+m,by rw[hW,tp]⟩;by_cases hlt:k<xs.length
  ·have h1':aI wr a1 xs:=by rw[hW];exact h1.drewN n
   have h2':aI wr a2 ys:=by rw[hW];exact h2.drewN n
   obtain ⟨b1,U1,rfl,_,hc1⟩:=h1'.get hlt;obtain ⟨b2,U6,rfl,_,hc2⟩:=h2'.get (by omega:k<ys.length);have x1:=hc1 k hlt;have x2:=hc2 k (by omega);have hat:uV xs ys k=decide (xs.getD k 0=ys.getD k 0):=rfl;have hne:¬ xs.getD k 0=ys.getD k 0->¬ xs=ys:=OF;obtain ⟨z,ez⟩:∃ z,xs.getD k 0=z:=⟨_,rfl⟩;obtain ⟨y,ey⟩:∃ y,ys.getD k 0=y:=⟨_,rfl⟩;rw[ez] at x1 hat hne;rw[ey] at x2 hat hne;have e1:(0:Int)<=(k:Int):=by omega
   have e2:(k:Int)<(xs.length:Int):=by omega
   have e3:(k:Int)<(ys.length:Int):=by omega
   by_cases h:z=y
   ·have h':(z != y)=false:=by simpa using h
    have HO:Hid (bC (uV xs ys) (k+1)=true):=jW hok (by rw[hat,bF h]);clear hat hok ez ey hc1 hc2 h1 h2 h1' h2' hW h hne hl;go_wp2;go_quiet (fail);go_wp2;obtain ⟨m',hm'⟩:=HW.out nq;go_roundw;case rel=>exact ⟨k+1,m',by omega,HO.out,by go_num,hm'⟩
    case measure=>simp[intOf];omega
   have h':(z != y)=true:=by simpa using h
   have HR:Hid (decide (xs=ys)=false):=bq (hne h);clear hat hok ez ey hc1 hc2 h1 h2 h1' h2' hW h hne hl;go_wp2;go_quiet (fail);go_wp2;go_ret;exact ⟨bQ HR.out.symm,HW.out _⟩
  obtain rfl:k=xs.length:=by omega
  have HR:Hid (decide (xs=ys)=true):=bF (OE hl hok);have HW0:Hid (wr=w.drewN n):=hW;have e9:decide (xs.length<ys.length)=false:=bq (by omega);clear hok h1 h2 hW hl;go_wp2;go_ret;exact ⟨bQ HR.out.symm,n,HW0.out⟩
 have hl':((xs.length:Int) != (ys.length:Int))=true:=by simp;omega
 have HR:Hid (decide (xs=ys)=false):=bq fun e=>hl (by rw[e]);clear hl;go_enter func218,ntmps218;go_wp2;go_ret;exact ⟨bQ HR.out.symm,0,rfl⟩
theorem Ev (a1 a2:Option Addr) (c1 c2:Nat) (xs ys:List Int) (w:World) (hb1:xs.length<=281474976710656) (hb2:ys.length<=281474976710656) (h1:aI w a1 xs) (h2:aI w a2 ys):Calls prog 86 #[.slice a1 xs.length c1,.slice a2 ys.length c2] w fun e w'=>e=.returned (.bool (decide (xs=ys)))/\∃ n,w'=w.drewN n:=by
 by_cases hl:xs.length=ys.length
 ·have hl':((xs.length:Int) != (ys.length:Int))=false:=by simp;omega
  go_enter func86,ntmps86;go_wp2;go_loopw [5] (fun i w'=>∃ k n:Nat,k<=xs.length/\bC (uV xs ys) k=true/\i=ad k/\w'=w.drewN n) (fun i _=>xs.length-(intOf i).toNat);case atStart=>exact ⟨0,0,aS _,rfl,rfl,rfl⟩
  case round=>
  obtain ⟨k,n,hk,hok,rfl,hW⟩:=hrel;have HW:Hid (∀ m,∃ m',wr.drewN m=w.drewN m'):=fun m=>⟨n+m,by rw[hW,tp]⟩;by_cases hlt:k<xs.length
  ·have h1':aI wr a1 xs:=by rw[hW];exact h1.drewN n
   have h2':aI wr a2 ys:=by rw[hW];exact h2.drewN n
   obtain ⟨b1,U1,rfl,_,hc1⟩:=h1'.get hlt;obtain ⟨b2,U6,rfl,_,hc2⟩:=h2'.get (by omega:k<ys.length);have x1:=hc1 k hlt;have x2:=hc2 k (by omega);have hat:uV xs ys k=decide (xs.getD k 0=ys.getD k 0):=rfl;have hne:¬ xs.getD k 0=ys.getD k 0->¬ xs=ys:=OF;obtain ⟨z,ez⟩:∃ z,xs.getD k 0=z:=⟨_,rfl⟩;obtain ⟨y,ey⟩:∃ y,ys.getD k 0=y:=⟨_,rfl⟩;rw[ez] at x1 hat hne;rw[ey] at x2 hat hne;have e1:(0:Int)<=(k:Int):=by omega
   have e2:(k:Int)<(xs.length:Int):=by omega
   have e3:(k:Int)<(ys.length:Int):=by omega
   by_cases h:z=y
   ·have h':(z != y)=false:=by simpa using h
    have HO:Hid (bC (uV xs ys) (k+1)=true):=jW hok (by rw[hat,bF h]);clear hat hok ez ey hc1 hc2 h1 h2 h1' h2' hW h hne hl;go_wp2;go_quiet (fail);go_wp2;obtain ⟨m',hm'⟩:=HW.out nq;go_roundw;case rel=>exact ⟨k+1,m',by omega,HO.out,by go_num,hm'⟩
    case measure=>simp[intOf];omega
   have h':(z != y)=true:=by simpa using h
   have HR:Hid (decide (xs=ys)=false):=bq (hne h);clear hat hok ez ey hc1 hc2 h1 h2 h1' h2' hW h hne hl;go_wp2;go_quiet (fail);go_wp2;go_ret;exact ⟨bQ HR.out.symm,HW.out _⟩
  obtain rfl:k=xs.length:=by omega
  have HR:Hid (decide (xs=ys)=true):=bF (OE hl hok);have HW0:Hid (wr=w.drewN n):=hW;have e9:decide (xs.length<ys.length)=false:=bq (by omega);clear hok h1 h2 hW hl;go_wp2;go_ret;exact ⟨bQ HR.out.symm,n,HW0.out⟩
 have hl':((xs.length:Int) != (ys.length:Int))=true:=by simp;omega
 have HR:Hid (decide (xs=ys)=false):=bq fun e=>hl (by rw[e]);clear hl;go_enter func86,ntmps86;go_wp2;go_ret;exact ⟨bQ HR.out.symm,0,rfl⟩
theorem OG (a:Option Addr) (c:Nat) (zs:List Int) (x y:Int) (w:World) (hbig:zs.length<=281474976710656) (hR:aI w a zs):Calls prog 137 #[.slice a zs.length c,ad x,ad y] w fun e w'=>e=.returned (.bool (iz zs x y))/\∃ n,w'=w.drewN n:=by
 go_enter func137,ntmps137;go_wp2;go_loopw [7] (fun i w'=>∃ k n:Nat,k<=zs.length/\bC (uR zs x y) k=true/\i=ad k/\w'=w.drewN n) (fun i _=>zs.length-(intOf i).toNat);case atStart=>exact ⟨0,0,aS _,rfl,rfl,rfl⟩
 case round=>
 obtain ⟨k,n,hk,hok,rfl,hW⟩:=hrel;have HW:Hid (∀ m,∃ m',wr.drewN m=w.drewN m'):=fun m=>⟨n+m,by rw[hW,tp]⟩;by_cases hlt:k<zs.length
 ·have hR':aI wr a zs:=by rw[hW];exact hR.drewN n
  obtain ⟨b,off,rfl,hb,hc⟩:=hR'.get hlt;have x1:=hc k hlt;have hat:uR zs x y k=(aW (zs.getD k 0) x y && (decide (k=0) || decide (zs.getD (k-1) 0<zs.getD k 0))):=rfl;have e1:(0:Int)<=(k:Int):=by omega
  have e2:(k:Int)<(zs.length:Int):=by omega
  by_cases g0:k=0
  ·subst g0;obtain ⟨z,ez⟩:∃ z,zs.getD 0 0=z:=⟨_,rfl⟩;rw[ez] at x1 hat;rw[mZ] at x1;rw[bF rfl,Bool.true_or,DU] at hat;cases h1:aW z x y with
   | true=>
    have HO:Hid (bC (uR zs x y) (0+1)=true):=jW hok (by rw[hat,h1]);clear hat hok ez hc hR hR' hW;go_wp2;go_quiet ((go_at_call 26;exact dD (cH _ _ _ _) h1));go_wp2;obtain ⟨m',hm'⟩:=HW.out nq;go_roundw;case rel=>exact ⟨0+1,m',by omega,HO.out,by go_num,hm'⟩
    case measure=>simp[intOf];omega
   | false=>
    have HR:Hid (iz zs x y=false):=jD hlt (by rw[hat,h1]);clear hat hok ez hc hR hR' hW;go_wp2;go_quiet ((go_at_call 26;exact dD (cH _ _ _ _) h1));go_wp2;go_ret;exact ⟨bQ HR.out.symm,HW.out _⟩
  have x2:=hc (k-1) (by omega);obtain ⟨z,ez⟩:∃ z,zs.getD k 0=z:=⟨_,rfl⟩;obtain ⟨u,eu⟩:∃ u,zs.getD (k-1) 0=u:=⟨_,rfl⟩;rw[ez] at x1 hat;rw[eu] at x2 hat;rw[bq g0,Hu] at hat;have e3:(0:Int)<=(k:Int)-1:=by omega
  have e4:(k:Int)-1<(zs.length:Int):=by omega
  have e5:((k:Int)-1).toNat=k-1:=by omega
  have e6:0<k:=by omega
  cases h1:aW z x y with
  | true=>
   by_cases h:z<=u
   ·have HR:Hid (iz zs x y=false):=jD hlt (by rw[hat,h1,bq (by omega)];rfl);clear hat hok ez eu hc hR hR' hW;go_wp2;go_quiet ((go_at_call 26;exact dD (cH _ _ _ _) h1));go_wp2;go_ret;exact ⟨bQ HR.out.symm,HW.out _⟩
   ·have h':decide (z<=u)=false:=by simpa using h
    have HO:Hid (bC (uR zs x y) (k+1)=true):=jW hok (by rw[hat,h1,bF (by omega)];rfl);clear hat hok ez eu hc hR hR' hW;go_wp2;go_quiet ((go_at_call 26;exact dD (cH _ _ _ _) h1));go_wp2;obtain ⟨m',hm'⟩:=HW.out nq;go_roundw;case rel=>exact ⟨k+1,m',by omega,HO.out,by go_num,hm'⟩
    case measure=>simp[intOf];omega
  | false=>
   have HR:Hid (iz zs x y=false):=jD hlt (by rw[hat,h1];rfl);clear hat hok ez eu hc hR hR' hW;go_wp2;go_quiet ((go_at_call 26;exact dD (cH _ _ _ _) h1));go_wp2;go_ret;exact ⟨bQ HR.out.symm,HW.out _⟩
 obtain rfl:k=zs.length:=by omega
 have HR:Hid (iz zs x y=true):=hok;have HW0:Hid (wr=w.drewN n):=hW;clear hok hR hW;go_wp2;go_ret;exact ⟨bQ HR.out.symm,n,HW0.out⟩
theorem wS {a b:Bool} (h:a=b):Ending.returned (.bool a)=.returned (.bool b):=by rw[h]
theorem Yf (b off n c:Nat) (es:List aV) (x:Int) (s:ByteArray) (w:World) (hn:n<=es.length) (hbig:n<=1048576) (fW:b<w.heap.size) (hc:∀ j,j<es.length->af w b (off+j*2) (ad (bS es j).1)/\af w b (off+j*2+1) (.string (bS es j).2)):Calls prog 235 #[.slice (some ⟨b,off,none⟩) n c,.agg #[ad x,.string s]] w (aT (.bool (iy (es.take n) (x,s))) w):=by
 have h0:=Ef x s w 147;go_enter func235,ntmps235;go_wp2;go_loopw [9] (fun i w'=>∃ k:Nat,k<=n/\iy (es.take k) (x,s)=false/\i=ad k/\jk w.heap.size w x s w') (fun i _=>n-(intOf i).toNat);case atStart=>exact ⟨0,aS _,rfl,rfl,h0⟩
 case round=>
 obtain ⟨k,hk,hno,rfl,hbx⟩:=hrel;clear h0;by_cases hlt:k<n
 ·have y1:=(hbx.ah.cell (p:=⟨b,off+k*2,none⟩) fW).trans (hc k (by omega)).1;have y2:=(hbx.ah.cell (p:=⟨b,off+k*2+1,none⟩) fW).trans (hc k (by omega)).2;have hs:=Oj es k (x,s) (by omega);have hin:=Ol (es:=es) (e:=(x,s)) hlt hn;obtain ⟨z,ez⟩:∃ z,bS es k=z:=⟨_,rfl⟩;rw[ez] at y1 y2 hs hin;obtain ⟨u,v⟩:=z;have e1:(0:Int)<=(k:Int):=by omega
  have e2:(k:Int)<(n:Int):=by omega
  have hb2:=hbx.alloc (.cells #[ad u,.string v] 147);have d0:=hb2.c0;have d1:=hb2.c1;clear ez hc;by_cases h1:(v.toList == s.toList)=true
  ·have HR:Hid (iy (es.take n) (x,s)=true):=hin (by rw[sw,h1];rfl);clear hin hs hno;go_wp2;go_ret;exact ⟨wS HR.out.symm,hb2.ah⟩
  have h1':(v.toList == s.toList)=false:=by simpa using h1
  by_cases h2:(u == x)=true
  ·have HR:Hid (iy (es.take n) (x,s)=true):=hin (by rw[sw,h1',h2];rfl);clear hin hs hno h1;go_wp2;go_ret;exact ⟨wS HR.out.symm,hb2.ah⟩
  have h2':(u == x)=false:=by simpa using h2
  have HN:Hid (iy (es.take (k+1)) (x,s)=false):=by rw[hs,hno,sw,h1',h2'];rfl
  clear hin hs hno h1 h2;go_wp2;go_roundw;case rel=>exact ⟨k+1,by omega,HN.out,by go_num,hb2⟩
  case measure=>simp[intOf];omega
 obtain rfl:k=n:=by omega
 have HN:Hid (iy (es.take k) (x,s)=false):=hno;clear hno hc;go_wp2;go_ret;exact ⟨wS HN.out.symm,hbx.ah⟩
theorem ID {i:Int} {s:ByteArray} {B:Nat} {w W:World} {r:Bool} (hs:s.size<=281474976710656) (hr:eR i s=r) (h:jk B w i s W):Calls prog 234 #[.agg #[ad i,.string s]] W fun e w'=>e=.returned (.bool r)/\jk B w i s w':=(Ib hs h).mono fun _ _ ⟨he,hb⟩=>⟨by rw[he,hr],hb⟩
theorem Yg {w W:World} {b off:Nat} {es:List aV} (hlt:b<w.heap.size) (hb:aj w W) (hc:∀ j,j<es.length->af w b (off+j*2) (ad (bS es j).1)/\af w b (off+j*2+1) (.string (bS es j).2)):∀ j,j<es.length->af W b (off+j*2) (ad (bS es j).1)/\af W b (off+j*2+1) (.string (bS es j).2):=fun j hj=>
 ⟨(hb.cell (p:=⟨b,off+j*2,none⟩) hlt).trans (hc j hj).1,(hb.cell (p:=⟨b,off+j*2+1,none⟩) hlt).trans (hc j hj).2⟩
theorem Yh (b off n c:Nat) (es:List aV) (x:Int) (s:ByteArray) (w W:World) (r:Bool) (hn:n<=es.length) (hbig:n<=1048576) (fW:b<w.heap.size) (hb:aj w W) (hr:iy (es.take n) (x,s)=r) (hc:∀ j,j<es.length->af w b (off+j*2) (ad (bS es j).1)/\af w b (off+j*2+1) (.string (bS es j).2)):Calls prog 235 #[.slice (some ⟨b,off,none⟩) n c,.agg #[ad x,.string s]] W (aT (.bool r) w):=(Yf b off n c es x s W hn hbig (cS fW hb.size) (Yg fW hb hc)).mono fun _ _ ⟨he,h2⟩=>⟨by rw[he,hr],hb.trans (h2.mono hb.size)⟩
theorem Yi (a:Option Addr) (c:Nat) (es:List aV) (w:World) (hbig:es.length<=1048576) (hcap:es.length<=c) (hfit:El es) (hR:mE w a es):Calls prog 195 #[.slice a es.length c] w fun e w'=>e=.returned (.bool (gL es))/\Below w.heap.size w w':=by
 by_cases h12:12<(es.length:Int)
 ·have HR:Hid (gL es=false):=by rw[gL,bq (by omega:¬ es.length<=12)];rfl
  go_enter func195,ntmps195;go_wp2;go_ret;exact ⟨wS HR.out.symm,aK _ _⟩
 have hD:gL es=nr es es.length:=by rw[gL,bF (by omega:es.length<=12),fe]
 go_enter func195,ntmps195;go_wp2;go_loopw [10] (fun i w'=>∃ k:Nat,k<=es.length/\nr es k=true/\i=.int .i64 k/\Below w.heap.size w w') (fun i _=>es.length-(intOf i).toNat);case atStart=>exact ⟨0,aS _,rfl,rfl,aK _ _⟩
 case round=>
 obtain ⟨k,hk,hok,rfl,hbel⟩:=hrel;by_cases hlt:k<es.length
 ·obtain ⟨b,off,rfl,fW,hc⟩:=hR.get hlt;have y1:=(hbel.cell (p:=⟨b,off+k*2,none⟩) fW).trans (hc k hlt).1;have y2:=(hbel.cell (p:=⟨b,off+k*2+1,none⟩) fW).trans (hc k hlt).2;have hs:=Om es k;have hat:pO es k=(eR (bS es k).1 (bS es k).2 && !(iy (es.take k) (bS es k))):=rfl;have hf:=hfit k hlt;obtain ⟨z,ez⟩:∃ z,bS es k=z:=⟨_,rfl⟩;rw[ez] at y1 y2 hat hf;obtain ⟨u,v⟩:=z;simp only at y1 y2 hat hf;have e1:(0:Int)<=(k:Int):=by omega
  have e2:(k:Int)<(es.length:Int):=by omega
  have e3:(k:Int)<=(c:Int):=by omega
  have hb1:=Ef u v wr 147;have hbd:=hb1.drew;have hB:=hbel.size;clear ez hR hfit;by_cases hE:eR u v=true
  ·have Wt:Hid (∀ r W,iy (es.take k) (u,v)=r->Below wr.heap.size wr W->_):=fun r W hr hb=>Yh b off k c es u v w W r (by omega) (by omega) fW (hbel.trans (hb.mono hB)) hr hc;by_cases hT:iy (es.take k) (u,v)=true
   ·have HR:Hid (gL es=false):=It hlt (by rw[hat,hT,DV,dU]);clear hs hat hok hc hD;go_wp2;go_region_with (first
     | (go_at_call 234;refine (ID (by omega) hE hbd).mono ?_;rintro e w4 ⟨rfl,h4⟩;have x0:=h4.c0;have x1:=h4.c1)
     | (go_at_call 235;refine (Wt.out _ _ hT h4.ah).mono ?_;rintro e w5 ⟨rfl,b5⟩))
    all_goals
     go_wp2;go_ret;exact ⟨wS HR.out.symm,b5⟩
   have hT':iy (es.take k) (u,v)=false:=by simpa using hT
   have HO:Hid (nr es (k+1)=true):=by rw[hs,hok,hat,hE,hT'];rfl
   clear hs hat hok hc hD hT;go_wp2;go_region_with (first
    | (go_at_call 234;refine (ID (by omega) hE hbd).mono ?_;rintro e w4 ⟨rfl,h4⟩;have x0:=h4.c0;have x1:=h4.c1)
    | (go_at_call 235;refine (Wt.out _ _ hT' h4.ah).mono ?_;rintro e w5 ⟨rfl,b5⟩))
   all_goals
    go_wp2;go_roundw;case rel=>exact ⟨k+1,by omega,HO.out,by go_num,b5⟩
    case measure=>simp[intOf];omega
  have hE':eR u v=false:=by simpa using hE
  have HR:Hid (gL es=false):=It hlt (by rw[hat,hE'];rfl);clear hs hat hok hc hD hE;go_wp2;have hS0:(wr.alloc (.cells #[.int .i64 u,.string v] 147)).drew.cell? ⟨wr.heap.size,0,none⟩=some (.int .i64 u)/\(wr.alloc (.cells #[.int .i64 u,.string v] 147)).drew.cell? ⟨wr.heap.size,1,none⟩=some (.string v):=⟨hbd.c0,hbd.c1⟩;refine et (S:=fun W=>W.cell? ⟨wr.heap.size,0,none⟩=some (.int .i64 u)/\W.cell? ⟨wr.heap.size,1,none⟩=some (.string v)) (by kernel_rfl) ?_;refine aC 0 (.agg #[.int .i64 u,.string v]) hS0 ?_;refine XW (i:=1) (by kernel_rfl) rfl rfl (.tmp 15) _ rfl (.agg #[.int .i64 u,.string v]) (by rfl) (bh func234 (by kernel_rfl) rfl) ((ID (by omega) hE' hbd).mono ?_);rintro e w4 ⟨rfl,h4⟩;have uE:w4.cell? ⟨wr.heap.size,0,none⟩=some (.int .i64 u)/\w4.cell? ⟨wr.heap.size,1,none⟩=some (.string v):=⟨h4.c0,h4.c1⟩;refine ⟨_,rfl,uE,?_⟩;simp only[ao,Act.put,Nat.reduceAdd];refine aE 2 (.bool true) uE ?_;refine aE 3 (.bool true) uE ?_;refine aM 4 uE ?_;refine aM 5 uE ?_;refine aM 6 uE ?_;refine aM 7 uE ?_;refine aM 8 uE ?_;refine aE 9 (.bool true) uE ?_;refine dV (by kernel_rfl) ?_ _;all_goals
   go_wp2;go_ret;exact ⟨wS HR.out.symm,hbel.trans (h4.ah.mono hB)⟩
 obtain rfl:k=es.length:=by omega
 have HR:Hid (gL es=true):=by rw[hD,hok];rfl
 clear hok hD hR;go_wp2;go_ret;exact ⟨wS HR.out.symm,hbel⟩
theorem By {a b:ByteArray} (h:a=b):Ending.returned (.string a)=.returned (.string b):=by rw[h]
theorem Yj {a:Option Addr} {c:Nat} {es:List aV} {W:World} {r:Bool} (hbig:es.length<=1048576) (hcap:es.length<=c) (hfit:El es) (hR:mE W a es) (hr:gL es=r):Calls prog 195 #[.slice a es.length c] W (aT (.bool r) W):=(Yi a c es W hbig hcap hfit hR).mono fun _ _ h=>⟨by rw[h.1,hr],h.2⟩
theorem Yk {i:Int} {s:ByteArray} (h:eR i s=false):(gG i s).toList.isEmpty=true:=by rw[gG,aG (by rw[h];decide),pH];rfl
theorem Yl {i:Int} {s:ByteArray} (h:eR i s=true):(gG i s).toList.isEmpty=false:=by
 have:=Iu h;rw[pH];cases hl:(gG i s).data.toList with
 | nil=>rw[cV,hl] at this;simp at this
 | cons x r=>rfl
theorem OH (a:Option Addr) (c:Nat) (es:List aV) (w:World) (hbig:es.length<=1048576) (hcap:es.length<=c) (hfit:El es) (hR:mE w a es):Calls prog 112 #[.slice a es.length c] w (aT (.string (gu es)) w):=by
 have HB:Hid (∀ k,k<es.length->pO es k=false->gu es=⟨#[]⟩):=fun k hk h=>by rw[gu,It hk h];rfl
 have HL:Hid (12<es.length->gu es=⟨#[]⟩):=fun h=>by rw[gu,gL,bq (by omega:¬ es.length<=12)];rfl
 have HY:Hid (es.length<=12->nr es es.length=true->gu es=ma es es.length):=fun h1 h2=>by rw[gu,gL,bF h1,h2];rfl
 go_enter func112,ntmps112;go_wp2;go_loopw [3,4] (fun t i w'=>∃ j:Nat,j<=es.length/\(j=0\/es.length<=12)/\nr es j=true/\i=ad j/\t=.string (ma es j)/\aj w w') (fun _ i _=>es.length-(intOf i).toNat);case atStart=>exact ⟨0,aS _,Or.inl rfl,rfl,rfl,rfl,aK _ _⟩
 case round=>
 obtain ⟨j,hj,h12,hok,rfl,rfl,hbel⟩:=hrel;by_cases hlt:j<es.length
 ·obtain ⟨b,off,rfl,fW,hc⟩:=(hR.below hbel).get hlt;have y1:=(hc j hlt).1;have y2:=(hc j hlt).2;have hs:=Om es j;have hat:pO es j=(eR (bS es j).1 (bS es j).2 && !(iy (es.take j) (bS es j))):=rfl;have hf:=hfit j hlt;have hu:ma es (j+1)=ma es j++gG (bS es j).1 (bS es j).2:=rfl;have hjs:=Iw hok j (aq _);have hbad:=HB.out j hlt;have hin:=fun k (hk:k<j)=>Ol (es:=es) (e:=bS es j) hk hj;have hts:=fun k (hk:k<es.length)=>Oj es k (bS es j) hk;obtain ⟨z,ez⟩:∃ z,bS es j=z:=⟨_,rfl⟩;rw[ez] at y1 y2 hat hf hu hin hts;obtain ⟨u,v⟩:=z;simp only at y1 y2 hat hf hu;have e1:(0:Int)<=(j:Int):=by omega
  have e2:(j:Int)<(es.length:Int):=by omega
  clear ez hR hfit HB;go_wp2;go_loopw [5] (fun i w'=>∃ k m:Nat,k<=j/\iy (es.take k) (u,v)=false/\i=ad k/\w'=wr.drewN m) (fun i _=>j-(intOf i).toNat);case atStart=>exact ⟨0,0,aS _,rfl,rfl,rfl⟩
  case round=>
  obtain ⟨k,m,hk,hno,rfl,hW⟩:=hrel;have x1:af wr b (off+j*2) (ad u):=by rw[hW];exact y1
  have x2:af wr b (off+j*2+1) (.string v):=by rw[hW];exact y2
  have HW:aj w wr:=by rw[hW];exact cL hbel m
  have HD:Hid (wr=_):=hW;by_cases hlk:k<j
  ·have x3:af wr b (off+k*2) (ad (bS es k).1):=by rw[hW];exact (hc k (by omega)).1
   have x4:af wr b (off+k*2+1) (.string (bS es k).2):=by rw[hW];exact (hc k (by omega)).2
   have hin1:=hin k hlk;have DK:=hts k (by omega);obtain ⟨z,ez⟩:∃ z,bS es k=z:=⟨_,rfl⟩;rw[ez] at x3 x4 hin1 DK;obtain ⟨p,q⟩:=z;simp only at x3 x4;have f1:(0:Int)<=(k:Int):=by omega
   have f2:(k:Int)<(es.length:Int):=by omega
   have f3:(k:Int)<(j:Int):=by omega
   clear ez hc y1 y2 hW hin hts;by_cases h1:(q.toList == v.toList)=true
   ·have HR:Hid (gu es=⟨#[]⟩):=hbad (by rw[hat,hin1 (by rw[sw,h1];rfl),DV,dU]);clear hin1 DK hat hbad hs hok hu;go_wp2;go_quiet (fail);go_wp2;go_ret;exact ⟨By HR.out.symm,cL HW _⟩
   have h1':(q.toList == v.toList)=false:=by simpa using h1
   by_cases h2:(p == u)=true
   ·have HR:Hid (gu es=⟨#[]⟩):=hbad (by rw[hat,hin1 (by rw[sw,h1',h2];rfl),DV,dU]);clear hin1 DK hat hbad hs hok hu h1;go_wp2;go_quiet (fail);go_wp2;go_ret;exact ⟨By HR.out.symm,cL HW _⟩
   have h2':(p == u)=false:=by simpa using h2
   have HN:Hid (iy (es.take (k+1)) (u,v)=false):=by rw[DK,hno,sw,h1',h2'];rfl
   clear hin1 DK hat hbad hs hok hu h1 h2 hno;go_wp2;go_quiet (fail);go_wp2;go_roundw;case rel=>exact ⟨k+1,m+nq,by omega,HN.out,by go_num,by rw[HD.out,tp]⟩
   case measure=>simp[intOf];omega
  obtain rfl:k=j:=by omega
  clear hc y1 y2 hW HD hin hts;by_cases hE:eR u v=true
  ·have g1:=Yl hE;have hps:=Iu hE;by_cases hl:12<es.length
   ·have HR:Hid (gu es=⟨#[]⟩):=HL.out hl;have hl':12<(es.length:Int):=by omega
    clear hat hbad hs hok hu hno;go_wp2_with (go_at_call 164;refine (Bl u v _ hf).mono ?_;rintro e w2 ⟨rfl,b2⟩);go_ret;exact ⟨By HR.out.symm,HW.trans (b2.mono HW.size)⟩
   have hl':¬ 12<(es.length:Int):=by omega
   have hl'':decide (12<(es.length:Int))=false:=by simpa using hl'
   have HO:Hid (nr es (k+1)=true):=by rw[hs,hok,hat,hE,hno];rfl
   have HU:Hid (ma es (k+1)=ma es k++gG u v):=hu;have zz:(ma es k).size+(gG u v).size<=9223372036854775807:=by omega
   have zz2:16*k+16<=9223372036854775807:=by omega
   clear hat hbad hs hok hu hno;go_wp2_with (go_at_call 164;refine (Bl u v _ hf).mono ?_;rintro e w2 ⟨rfl,b2⟩);go_roundw;case rel=>exact ⟨k+1,by omega,Or.inr (by omega),HO.out,by go_num,by rw[HU.out],HW.trans (b2.mono HW.size)⟩
   case measure=>simp[intOf];omega
  have hE':eR u v=false:=by simpa using hE
  have g1:=Yk hE';have HR:Hid (gu es=⟨#[]⟩):=hbad (by rw[hat,hE'];rfl);clear hat hbad hs hok hu hno;go_wp2_with (go_at_call 164;refine (Bl u v _ hf).mono ?_;rintro e w2 ⟨rfl,b2⟩);go_ret;exact ⟨By HR.out.symm,HW.trans (b2.mono HW.size)⟩
 obtain rfl:j=es.length:=by omega
 have HP:Hid (gu es=ma es es.length):=by
  show gu es=ma es es.length
  rcases h12 with h | h;·exact HY.out (by omega) hok
  exact HY.out h hok
 clear hok hR hfit h12 HB HL HY;go_wp2;go_ret;exact ⟨By HP.out.symm,hbel⟩
section
theorem yZ {P:Program} (w:World) (t ty e:TypeId) (i:TypeInfo) (ht:P.underlying t=some (.slice e)) (hi:P.info? e=some i) (b:Option Addr) (n cap:Nat) (hle:n<=cap) (ax:Option Addr) (cx:Nat):(Builtin.append_ #[t,t] ty #[.slice b n cap,.slice ax 0 cx]).run P w=.ok (.slice b n cap) w:=by
 cases b <;> cases ax <;> simp[Builtin.append_,Ho ht,sizeOf,typeInfo,hi,Builtin.lenOf,Builtin.firstCells,loadCells,loadCellsFrom,storeCells,hle]
variable {base n cap : Nat} {a : Option Addr} {w W : World} {zs : List Int}
theorem IE (xs:List Int):∀ u ∈ bU xs,u.oneCell'=true:=by intro u h;simp at h;obtain ⟨z,_,rfl⟩:=h;rfl
theorem pP {ops:Array Oper} {rest:List Oper} {o:Oper} {A:Act} {Q:Exit->Act->World->Prop} (hgd:o.guard=none) (sl x:Operand) (ho:o.op=.call { callee:=.builtin .append,args:=#[sl,x],argTypes:=#[29,29] }) (hbuf:bo base w a n cap zs) (ax:Option Addr) (cx:Nat) (xs:List Int) (hs:A.eval sl=.slice a n cap) (hx:A.eval x=.slice ax xs.length cx) (hR:aI w ax xs) (hlen:n+xs.length<=4194304) (hb:base<=w.heap.size) (h:∀ a' cap' w',bo base w' a' (n+xs.length) cap' (zs++xs)->Below base w w'->wpList prog ops Q rest (A.put o.dst (.slice a' (n+xs.length) cap')) w'):wpList prog ops Q (o :: rest) A w:=by
 obtain ⟨i0,hi,hz0,hz1,hz2⟩:=iW tL;by_cases h0:xs=[]
 ·subst h0;refine Hw _ hgd sl x 29 29 ho _ _ hs hx _ _ (yZ w 29 _ 3 i0 underlying29 hi a n cap hbuf.fits ax cx) ?_;exact h a cap w (by rw[tA];exact hbuf) (aK _ _)
 rcases hR with hR | ⟨b,off,rfl,hb2,hc⟩;·exact absurd hR h0
 have hm:0<xs.length:=Nu.2 h0;refine rY _ hgd sl x 29 ho base 3 i0 (ad 0) 1 8 underlying29 hi hz0 hz1 hz2 rfl (by omega) _ n _ hs hbuf.2 ⟨b,off,none⟩ xs.length cx (bU xs) hx (by simp) ?_ (IE xs) hm (by unfold maxLen;omega) (by omega) hb _ rfl ?_
 ·intro j u hj;have hj':j<xs.length:=by
   have:=(pI.1 hj).1;simpa using this
  rw[nT,hc j hj',eS _ _ hj',<- hj];simp[hj']
 intro g' cap' w' ho' hg' _ _;refine h (some ⟨g',0,none⟩) cap' w' ⟨by rw[hbuf.1];simp,?_⟩ ?_
 ·rw[show bU (zs++xs)=bU zs++bU xs by simp];exact ho'
 exact lY (aK _ _) hg' (tM hbuf) hb
theorem Ym (k:Nat) (w:World) (hk:k<=4194304):Calls prog 96 #[.slice none 0 0,ad k] w fun e w'=>∃ a c,e=.returned (.slice a 0 c)/\bo w.heap.size w' a 0 c []/\aj w w':=by
 by_cases h0:k=0
 ·subst h0;go_enter func96,ntmps96;go_wp2;go_ret;exact ⟨none,0,rfl,Es _,aK _ _⟩
 obtain ⟨i0,hi,hz0,hz1,hz2⟩:=iW tL;have hrz:∀ ty,(Builtin.append_ #[29,3] ty #[.slice none 0 0,ad k]).run prog w=.ok (bg w.heap.size (0+k) (grownCap w (0+k) 0 3)) (w.drew.alloc (.cells ((#[]:Array Value)++Builtin.zeroCells (Value.int .i64 0).cells k++Builtin.zeroCells (Value.int .i64 0).cells (grownCap w (0+k) 0 3-(0+k))) 3)):=fun ty=>
  Lib.run_append_grow_zeros w 29 3 ty 3 i0 (ad 0) .i64 .i64 underlying29 underlying3 hi hz0 none 0 0 [] (run_firstCells_none w.drew i0.size 0 0 0) k (by omega) (by omega) (by omega) (by omega) (by rw[hz2];omega) (by rw[hz2,Builtin.nextslicecap,aF (by omega)];omega)
 have hG:=grownCap_ge w (0+k) 0 3;have hM:=grownCap_le_maxLen w (0+k) 0 3 (by unfold maxLen;omega);have hgt:(0:Int)<(k:Int):=by omega
 have hnk:0<k:=by omega
 obtain ⟨C,hC⟩:∃ C:Array Value,C=(#[]:Array Value)++Builtin.zeroCells (Value.int .i64 0).cells k++Builtin.zeroCells (Value.int .i64 0).cells (grownCap w (0+k) 0 3-(0+k)):=⟨_,rfl⟩;rw[<- hC] at hrz;rw[cR] at hC hrz hG hM;have hsz:C.size=grownCap w k 0 3:=by rw[hC];simp[Builtin.zeroCells,Value.cells];omega
 obtain ⟨G,hg⟩:∃ G,grownCap w k 0 3=G:=⟨_,rfl⟩;rw[hg] at hrz hG hM hsz;have hbuf:bo w.heap.size (w.drew.alloc (.cells C 3)) (some ⟨w.heap.size,0,none⟩) 0 G []:=⟨rfl,tu w.drew C G (aq _) hM (by omega)⟩;have hbel:aj w (w.drew.alloc (.cells C 3)):=(aK _ w).drew.alloc (aq _) _;have hM':G<=9223372036854775807:=hM;have oJ:k<=G:=by omega
 clear hC hsz hg hM hi hz0 hz1 hz2;go_enter func96,ntmps96;go_wp2_with (at_builtin;refine Hw _ rfl _ _ _ _ rfl _ _ rfl rfl _ _ (hrz _) ?_);all_goals
  go_ret;exact ⟨_,_,rfl,hbuf,hbel⟩
def sy (xs zs:List Int) (k:Nat):List Int:=if k=0 then [] else if k=1 then xs else zs
theorem Yn (B:Nat) (a1 a2:Option Addr) (c1 c2:Nat) (xs ys zs:List Int) (hzs:zs=xs++ys) (w:World) (h1:af w B 0 (.slice a1 xs.length c1)) (h2:af w B 1 (.slice a2 ys.length c2)) (hB:B<w.heap.size) (R1:aI w a1 xs) (R2:aI w a2 ys) (hx:xs.length<=1048576) (hy:ys.length<=1048576):Calls prog 40 #[bg B 2 2] w fun e w'=>∃ a c,e=.returned (.slice a zs.length c)/\aQ w.heap.size w' a zs/\zs.length<=c/\aj w w':=by
 have HL:Hid (zs.length=xs.length+ys.length):=by rw[hzs];exact bY
 have HZ:Hid (xs++ys=zs):=hzs.symm;have hzl:zs.length<=4194304:=by rw[HL.out];omega
 clear hzs;go_enter func40,ntmps40;go_wp2;go_loop [3,11] (fun v i=>∃ k:Nat,k<=2/\i=ad k/\v=ad ((sy xs zs k).length:Int)) (fun _ i=>2-(intOf i).toNat)
 case atStart=>exact ⟨0,aS _,rfl,rfl⟩
 case round=>
 obtain ⟨k,hk,rfl,rfl⟩:=hrel;have hk':k=0\/k=1\/k=2:=by omega
 rcases hk' with rfl | rfl | rfl
 ·have e0:(sy xs zs 0).length=0:=rfl;rw[e0];have e1:¬ ((xs.length:Int)<0):=by omega
  go_wp2;go_round;case rel=>exact ⟨1,by omega,by go_num,rfl⟩
  case measure=>simp[intOf]
 ·have e0:(sy xs zs 1).length=xs.length:=rfl;rw[e0];have e1:¬ ((xs.length:Int)+(ys.length:Int)<0):=by omega
  go_wp2;go_round;case rel=>exact ⟨2,by omega,by go_num,by show _=Value.int .i64 ((zs.length:Nat):Int);rw[HL.out];go_num⟩
  case measure=>simp[intOf]
 have e0:(sy xs zs 2).length=zs.length:=rfl;rw[e0];have hgr:=Ym zs.length w (by omega);go_wp2_with (go_at_call 96;refine hgr.mono ?_;rintro e w1 ⟨a,c,rfl,hbuf,hbel⟩);clear hgr;go_loopw [6,27] (fun v i w'=>∃ (k c:Nat) (a:Option Addr),k<=2/\i=ad k/\v=.slice a (sy xs zs k).length c/\bo w.heap.size w' a (sy xs zs k).length c (sy xs zs k)/\aj w w') (fun _ i _=>2-(intOf i).toNat);case atStart=>exact ⟨0,c,a,aS _,rfl,rfl,hbuf,hbel⟩
 case round=>
 obtain ⟨k,c',a',hk,rfl,rfl,AE,um⟩:=hrel;clear hbuf hbel;have x1:=(um.cell (p:=⟨B,0,none⟩) hB).trans h1;have x2:=(um.cell (p:=⟨B,1,none⟩) hB).trans h2;have r1:=R1.below um;have r2:=R2.below um;have hk':k=0\/k=1\/k=2:=by omega
 rcases hk' with rfl | rfl | rfl
 ·have hb0:bo w.heap.size wr a' 0 c' []:=AE;have e0:(sy xs zs 0).length=0:=rfl;rw[e0];clear AE h1 h2 R1 R2;go_wp2_with (at_builtin;refine pP rfl (.tmp 31) (.tmp 32) rfl hb0 a1 c1 xs rfl rfl r1 (by omega) um.size ?_;intro a3 c3 w3 b3 l3);go_roundw;case rel=>exact ⟨1,c3,a3,by omega,by go_num,rfl,by rw[cR] at b3;exact b3,um.trans l3⟩
  case measure=>simp[intOf]
 ·have hb0:bo w.heap.size wr a' xs.length c' xs:=AE;have e0:(sy xs zs 1).length=xs.length:=rfl;rw[e0];clear AE h1 h2 R1 R2;go_wp2_with (at_builtin;refine pP rfl (.tmp 31) (.tmp 32) rfl hb0 a2 c2 ys rfl rfl r2 (by omega) um.size ?_;intro a3 c3 w3 b3 l3);go_roundw;case rel=>exact ⟨2,c3,a3,by omega,by go_num,by rw[<- HL.out];rfl,by rw[<- HL.out,HZ.out] at b3;exact b3,um.trans l3⟩
  case measure=>simp[intOf]
 have hb0:bo w.heap.size wr a' zs.length c' zs:=AE;have e0:(sy xs zs 2).length=zs.length:=rfl;rw[e0];clear AE h1 h2 R1 R2;go_wp2;go_ret;exact ⟨a',c',rfl,hb0.own,hb0.fits,um⟩
theorem OI (B:Nat) (a1 a2:Option Addr) (c1 c2:Nat) (xs ys:List Int) (w:World) (h1:af w B 0 (.slice a1 xs.length c1)) (h2:af w B 1 (.slice a2 ys.length c2)) (hB:B<w.heap.size) (R1:aI w a1 xs) (R2:aI w a2 ys) (hx:xs.length<=1048576) (hy:ys.length<=1048576):Calls prog 40 #[bg B 2 2] w fun e w'=>∃ a c,e=.returned (.slice a (xs++ys).length c)/\aQ w.heap.size w' a (xs++ys)/\(xs++ys).length<=c/\aj w w':=Yn B a1 a2 c1 c2 xs ys (xs++ys) rfl w h1 h2 hB R1 R2 hx hy
end
section
theorem Ew {a b:ByteArray} (h:a=b):Ending.returned (.string a)=.returned (.string b):=by rw[h]
def qM (k o s:Int) (zs:List Int) (j:Nat):ByteArray:=iM k o++ix s++gR (zs.take j)
theorem Yo (k o s:Int) (zs:List Int):qM k o s zs 0=iM k o++ix s:=by apply gm;simp[qM,gR]
theorem Yp (k o s:Int) (zs:List Int) (j:Nat) (h:j<zs.length):qM k o s zs j ++ ⟨#[UInt8.ofNat (zs.getD j 0).toNat]⟩=qM k o s zs (j+1):=by rw[qM,qM,aiM,Ob zs j h]
theorem Yq (k o s:Int) (zs:List Int):qM k o s zs zs.length=sr k o s zs:=by rw[qM,ks,sr]
theorem aiV {base g n cap:Nat} {W:World} {t:ByteArray} (m:Int) (h:fo base W g n cap t):Calls prog 98 #[ad m] W fun e w'=>e=.returned (.string (bB m))/\fo base w' g n cap t/\aj W w':=(Bf m W).mono fun _ _ ⟨he,hb⟩=>⟨he,h.below hb,hb⟩
structure iP (w:World) (W1:World) (g n cap:Nat) (t:ByteArray) (W:World):Prop where
 buf:fo W1.heap.size W g n cap t
 ah:aj W1 W
variable {w W1 W W' : World} {g n cap : Nat} {t : ByteArray}
theorem iP.below (h:iP w W1 g n cap t W) (hb:aj W W'):iP w W1 g n cap t W':=⟨h.buf.below hb,h.ah.trans (hb.mono h.ah.size)⟩
theorem iP.drew (h:iP w W1 g n cap t W):iP w W1 g n cap t W.drew:=⟨h.buf.drew,h.ah.drew⟩
theorem Yr (m:Int) (h:iP w W1 g n cap t W):Calls prog 98 #[ad m] W fun e w'=>e=.returned (.string (bB m))/\iP w W1 g n cap t w':=(Bf m W).mono fun _ _ ⟨he,hb⟩=>⟨he,h.below hb⟩
theorem Ys (a:ByteArray) (k:Int) (u:ByteArray) (hs:a.size<=281474976710656) (ht:u.size<=281474976710656) (h:iP w W1 g n cap t W):Calls prog 97 #[.string a,ad k,.string u] W fun e w'=>e=.returned (.string (bJ a k u))/\iP w W1 g n cap t w':=(yQ a k u W hs ht).mono fun _ _ ⟨he,hb⟩=>⟨he,h.below hb⟩
theorem OJ (k o s:Int) (a:Option Addr) (c:Nat) (zs:List Int) (w:World) (hok:eH k o s zs=true) (hR:aI w a zs):Calls prog 231 #[bO k o s a zs.length c] w (aT (.string (dO k o s zs)) w):=by
 obtain ⟨hk,ho,hs,hl,-,hp⟩:=Br hok;have hP2:=Im s (by omega) (by omega);have nN:=bu (eV k o s a zs.length c) w 117;have hl0:=aB w (.cells (bj k o s a zs.length c) 117);have uA:=hR.below hl0;have tj:=Od (base:=(w.alloc (.cells (bj k o s a zs.length c) 117)).heap.size) (w.alloc (.cells (bj k o s a zs.length c) 117)) k o (by omega) (by omega) (aq _);have tj:=tj.at (g':=w.heap.size+1) (by simp);have GL:=aB (w.alloc (.cells (bj k o s a zs.length c) 117)) (.cells #[.int .u8 k,.int .u8 o] 5);have agS:=nN.below GL;have HT:Hid (dO k o s zs=bJ (bB 16) 0 (sr k o s zs)):=by
  have hz:=Io k o s zs (by omega) (by omega);rw[dO,aF hok,bB,aF (by decide),show ((16:Int)).toNat=16 from rfl,NQ _ 16 (by omega),hz,show 16-(4+zs.length)=12-zs.length by omega]
  rfl
 have GP:(sr k o s zs).size<=281474976710656:=by rw[Io k o s zs (by omega) (by omega)];omega
 have Gw:(bB 16).size<=281474976710656:=by decide
 clear hR hok;have hs0:0<=s:=hs.1;have hk0:0<=k:=hk.1;have hk1:k<=2:=hk.2;have ho0:0<=o:=ho.1;have ho1:o<=9:=ho.2;go_enter func231,ntmps231;go_wp2_with (first
  | (go_at_call 250;refine (XC _ _).mono ?_;rintro e w2 ⟨rfl,b2⟩;have yt:=tj.below b2;have je:=GL.trans (b2.mono GL.size);have Wa:=nN.below je;have c3:=Wa.c3)
  | (at_builtin;refine Og rfl (.tmp 13) (.tmp 16) rfl yt (ix s) (by rfl) (by rfl) (by omega) je.size ?_;intro g3 ahp w3 An Vi;have rN:=je.trans Vi;have VD:=nN.below rN;have d3:=VD.c3))
 go_loopw [3,21] (fun r i w'=>∃ (j g cap:Nat),j<=zs.length/\i=ad j/\r=bg g (4+j) cap/\fo (w.alloc (.cells (bj k o s a zs.length c) 117)).heap.size w' g (4+j) cap (qM k o s zs j)/\aj (w.alloc (.cells (bj k o s a zs.length c) 117)) w') (fun _ i _=>zs.length-(intOf i).toNat);case atStart=>
  rw[hP2] at An;exact ⟨0,g3,ahp,aS _,rfl,rfl,by rw[Yo];exact An,rN⟩
 case round=>
 obtain ⟨j,g,cap,hj,rfl,rfl,hbuf,hbel⟩:=hrel;clear tj GL agS yt je Wa c3 An rN Vi VD d3 b2;by_cases hlt:j<zs.length
 ·obtain ⟨b,off,rfl,hb,hc⟩:=(uA.below hbel).get hlt;have x1:=hc j hlt;have hz:=wJ hp hlt;have hu:=Yp k o s zs j hlt;obtain ⟨z,ez⟩:∃ z,zs.getD j 0=z:=⟨_,rfl⟩;rw[ez] at x1 hz hu;have z0:0<=z:=by omega
  have z1:z<=23:=hz.2;have e1:(0:Int)<=(j:Int):=by omega
  have e2:(j:Int)<(zs.length:Int):=by omega
  have HU:Hid (qM k o s zs j ++ ⟨#[UInt8.ofNat z.toNat]⟩=qM k o s zs (j+1)):=hu;clear hu ez hc hz;go_wp2_with (at_builtin;refine Oh rfl (.tmp 25) (.tmp 28) rfl hbuf z (by omega) (by rfl) (by rfl) (by omega) hbel.size ?_;intro g1 ij w1 mQ ko);go_roundw;case rel=>exact ⟨j+1,g1,ij,by omega,by go_num,rfl,by rw[<- HU.out];exact mQ,hbel.trans ko⟩
  case measure=>simp[intOf];omega
 obtain rfl:j=zs.length:=by omega
 rw[Yq] at hbuf;have st:iP w (w.alloc (.cells (bj k o s a zs.length c) 117)) g (4+zs.length) cap (sr k o s zs) wr:=⟨hbuf,hbel⟩;have hfin:Hid (∀ W,iP w (w.alloc (.cells (bj k o s a zs.length c) 117)) g (4+zs.length) cap (sr k o s zs) W->aj w W):=fun W h=>hl0.trans (h.ah.mono hl0.size);clear uA hbuf hbel nN hl0;go_wp2;have st1:=st.drew;have cv0:=st.buf.conv;have cv1:=st1.buf.conv;go_region_with (first
  | (go_at_call 98;refine (Yr _ (by assumption)).mono ?_;rintro e w4 ⟨rfl,h4⟩;have cv4:=h4.buf.conv)
  | (go_at_call 97;refine (Ys _ _ _ Gw GP (by assumption)).mono ?_;rintro e w5 ⟨rfl,h5⟩))
 all_goals
  go_wp2;go_ret;exact ⟨Ew HT.out.symm,hfin.out _ h5⟩
end
end Go.Proofs.YtidmmopnkjbjoaaGreatDoor
