/- Joined texts. -/
import Derived.Test.YtgpfmgaidbjcpaaGreatDoorJhB
set_option linter.unusedVariables false
set_option linter.unusedSimpArgs false
set_option maxRecDepth 10000
set_option maxHeartbeats 16000000
namespace Go.Proofs.YtgpfmgaidbjcpaaGreatDoor
open ChangeShapes WideShapes ChangeAt RowKit
open Go.Proofs.Tryz
def fE (o s:Int) (zs:List Int):Bool:=bp o 0 9 && (bp s 0 192 && (decide ((zs.length:Int)=dL s) && eE zs))
def jF (o s:Int) (zs:List Int):Bool:=decide (o=0) && (decide (s=0) && decide (zs.length=0))
def fe (k o s:Int) (zs:List Int):Bool:=if k=0 then jF o s zs else if k=1 then fE o s zs else if k=2 then fE o s zs && decide (s % 16=0) else false
abbrev aO (k o s:Int) (a:Option Addr) (n c:Nat):Value:=.agg #[.int .i64 k,.int .i64 o,.int .i64 s,.slice a n c]
abbrev fO (k o s:Int) (a:Option Addr) (n c:Nat):List Value:=[.int .i64 k,.int .i64 o,.int .i64 s,.slice a n c]
theorem OU (o:Int) (w:World):Calls prog 149 #[aa o] w (el (.bool (bp o 0 8)) w):=by
 by_cases h1:0<=o
 ·by_cases h2:o<=8
  ·have HR:Hid (bp o 0 8=true):=bK (by omega);go_enter func149,ntmps149;go_wp2;go_ret;exact ⟨cr HR.out.symm,rfl⟩
  have h2':decide (o<=8)=false:=by simpa using h2
  have HR:Hid (bp o 0 8=false):=bA (by omega);go_enter func149,ntmps149;go_wp2;go_ret;exact ⟨cr HR.out.symm,rfl⟩
 have HR:Hid (bp o 0 8=false):=bA (by omega);have h1':decide (0<=o)=false:=by simpa using h1
 go_enter func149,ntmps149;go_wp2;go_ret;exact ⟨cr HR.out.symm,rfl⟩
theorem IK (o:Int) (w:World):Calls prog 298 #[aa o] w (el (.bool (bp o 0 9)) w):=by
 have HC:=OU o w;cases hc:bp o 0 8 with
 | true=>
  rw[hc] at HC;have HR:Hid (bp o 0 9=true):=bK (by have:=yT hc;omega);go_enter func298,ntmps298;go_wp2_with (go_at_call 149;refine HC.mono ?_;rintro e w1 ⟨rfl,rfl⟩);go_ret;exact ⟨cr HR.out.symm,rfl⟩
 | false=>
  rw[hc] at HC;have hn:=Ie hc;by_cases h3:o=9
  ·have HR:Hid (bp o 0 9=true):=bK (by omega);have h3':(o == 9)=true:=by simpa using h3
   clear h3 hn;go_enter func298,ntmps298;go_wp2_with (go_at_call 149;refine HC.mono ?_;rintro e w1 ⟨rfl,rfl⟩);go_ret;exact ⟨cr HR.out.symm,rfl⟩
  ·have HR:Hid (bp o 0 9=false):=bA (by omega);have h3':(o == 9)=false:=by simpa using h3
   clear h3 hn;go_enter func298,ntmps298;go_wp2_with (go_at_call 149;refine HC.mono ?_;rintro e w1 ⟨rfl,rfl⟩);go_ret;exact ⟨cr HR.out.symm,rfl⟩
theorem sA (w:World) (o:Obj) (n:Nat):ah w ((w.alloc o).drewN n):=gy (aA w o) n
theorem Eo (k o s:Int) (a:Option Addr) (c:Nat) (zs:List Int) (w:World) (hbig:zs.length<=281474976710656) (hcap:zs.length<=c) (hR:aK w a zs):Calls prog 297 #[aO k o s a zs.length c] w (aV (.bool (fE o s zs)) w):=by
 have hB:=aA w (.cells (bj k o s a zs.length c) 35);have hR':=hR.alloc (.cells (bj k o s a zs.length c) 35);have hP:Hid (∀ m,Calls prog 186 #[.slice a zs.length c] ((w.alloc (.cells (bj k o s a zs.length c) 35)).drewN m) fun e w'=>e=.returned (.bool (eE zs))/\w'=(w.alloc (.cells (bj k o s a zs.length c) 35)).drewN m):=fun m=>II a c zs _ hbig hcap hR';by_cases h1:s<0
 ·have HR:Hid (fE o s zs=false):=by rw[fE,show bp s 0 192=false from bA (by omega),dC,eS];rfl
  go_enter func297,ntmps297;go_wp2;go_ret;exact ⟨cr HR.out.symm,hB⟩
 by_cases h2:192<s
 ·have HR:Hid (fE o s zs=false):=by rw[fE,show bp s 0 192=false from bA (by omega),dC,eS];rfl
  go_enter func297,ntmps297;go_wp2;go_ret;exact ⟨cr HR.out.symm,hB⟩
 have HS:Hid (fE o s zs=(bp o 0 9 && (decide ((zs.length:Int)=dL s) && eE zs))):=by rw[fE,show bp s 0 192=true from bK (by omega),fJ];rfl
 clear hB;by_cases g1:bp o 0 9=true
 ·by_cases g2:(zs.length:Int)=dL s
  ·have g2':((zs.length:Int) == dL s)=true:=by simpa using g2
   have HR:Hid (fE o s zs=eE zs):=by rw[HS.out,g1,bK g2];rfl
   clear g2 hR hR';go_enter func297,ntmps297;go_wp2;go_quiet ((first | (go_at_call 298;exact jq (IK _ _) g1) | (go_at_call 34;exact yS (Bw _ _ (by omega) (by omega))) | (go_at_call 186;exact yS (hP.out _))));go_wp2;go_ret;exact ⟨cr HR.out.symm,sA _ _ _⟩
  have g2':((zs.length:Int) == dL s)=false:=by simpa using g2
  have HR:Hid (fE o s zs=false):=by rw[HS.out,bA g2,dC,eS];rfl
  clear g2 hR hR';go_enter func297,ntmps297;go_wp2;go_quiet ((first | (go_at_call 298;exact jq (IK _ _) g1) | (go_at_call 34;exact yS (Bw _ _ (by omega) (by omega)))));go_wp2;go_ret;exact ⟨cr HR.out.symm,sA _ _ _⟩
 have g1':bp o 0 9=false:=by simpa using g1
 have HR:Hid (fE o s zs=false):=by rw[HS.out,g1',dC];rfl
 clear hR hR';go_enter func297,ntmps297;go_wp2;go_quiet ((go_at_call 298;exact jq (IK _ _) g1'));go_wp2;go_ret;exact ⟨cr HR.out.symm,sA _ _ _⟩
theorem ZJ (k o s:Int) (a:Option Addr) (c n:Nat) (zs:List Int) (w:World) (hn:n=zs.length):Calls prog 295 #[aO k o s a n c] w (aV (.bool (jF o s zs)) w):=by
 have hB:=aA w (.cells (bj k o s a n c) 86);by_cases h1:o=0
 ·subst h1;by_cases h2:s=0
  ·subst h2;by_cases h3:n=0
   ·have HR:Hid (jF 0 0 zs=true):=by rw[jF,<- hn,h3];rfl
    subst h3;clear hn;go_enter func295,ntmps295;go_wp2;go_ret;exact ⟨cr HR.out.symm,hB⟩
   have HR:Hid (jF 0 0 zs=false):=by rw[jF,<- hn,bA h3];rfl
   have h3':((n:Int) == 0)=false:=by simp;omega
   clear hn;go_enter func295,ntmps295;go_wp2;go_ret;exact ⟨cr HR.out.symm,hB⟩
  have HR:Hid (jF 0 s zs=false):=by rw[jF,bA h2,dC,eS];rfl
  have h2':(s == 0)=false:=by simpa using h2
  clear hn;go_enter func295,ntmps295;go_wp2;go_ret;exact ⟨cr HR.out.symm,hB⟩
 have HR:Hid (jF o s zs=false):=by rw[jF,bA h1,dC];rfl
 have h1':(o == 0)=false:=by simpa using h1
 clear hn;go_enter func295,ntmps295;go_wp2;go_ret;exact ⟨cr HR.out.symm,hB⟩
theorem ZK (k o s:Int) (a:Option Addr) (c:Nat) (zs:List Int) (w:World) (hbig:zs.length<=281474976710656) (hcap:zs.length<=c) (hR:aK w a zs):Calls prog 296 #[aO k o s a zs.length c] w (aV (.bool (fE o s zs)) w):=by have hB:=aA w (.cells (bj k o s a zs.length c) 88);have hR':=hR.alloc (.cells (bj k o s a zs.length c) 88);go_enter func296,ntmps296;go_wp2_with (go_at_call 297;refine (Eo k o s a c zs _ hbig hcap hR').mono ?_;rintro e w' ⟨rfl,hb⟩);go_ret;exact ⟨rfl,hB.trans (hb.mono hB.size)⟩
theorem ZL (k o s:Int) (a:Option Addr) (c:Nat) (zs:List Int) (w:World) (hbig:zs.length<=281474976710656) (hcap:zs.length<=c) (hR:aK w a zs):Calls prog 299 #[aO k o s a zs.length c] w (aV (.bool (fE o s zs && decide (s % 16=0))) w):=by
 have hB:=aA w (.cells (bj k o s a zs.length c) 90);have hR':=hR.alloc (.cells (bj k o s a zs.length c) 90);have hK:=aY (fO k o s a zs.length c) w 90;by_cases hh:fE o s zs=true
 ·have hs:=hh;simp only[fE,ca] at hs;obtain ⟨hs1,hs2⟩:=pN hs.2.1;clear hs;by_cases h16:s % 16=0
  ·have WG:(s % 16 == 0)=true:=by simpa using h16
   have HR:Hid ((fE o s zs && decide (s % 16=0))=true):=by rw[hh,bK h16];rfl
   clear h16;go_enter func299,ntmps299;go_wp2_with (go_at_call 297;refine (Eo k o s a c zs _ hbig hcap hR').mono ?_;rintro e w' ⟨rfl,hb⟩;have hK':=hK.below hb;have c2:=hK'.c2);go_ret;exact ⟨cr HR.out.symm,hB.trans (hb.mono hB.size)⟩
  have WG:(s % 16 == 0)=false:=by simpa using h16
  have HR:Hid ((fE o s zs && decide (s % 16=0))=false):=by rw[bA h16,eS];rfl
  clear h16;go_enter func299,ntmps299;go_wp2_with (go_at_call 297;refine (Eo k o s a c zs _ hbig hcap hR').mono ?_;rintro e w' ⟨rfl,hb⟩;have hK':=hK.below hb;have c2:=hK'.c2);go_ret;exact ⟨cr HR.out.symm,hB.trans (hb.mono hB.size)⟩
 have hh':fE o s zs=false:=by simpa using hh
 have HR:Hid ((fE o s zs && decide (s % 16=0))=false):=by rw[hh',dC];rfl
 go_enter func299,ntmps299;go_wp2_with (go_at_call 297;refine (Eo k o s a c zs _ hbig hcap hR').mono ?_;rintro e w' ⟨rfl,hb⟩);go_ret;exact ⟨cr HR.out.symm,hB.trans (hb.mono hB.size)⟩
def iy (zs:List Int):ByteArray:=⟨(zs.map fun z=>UInt8.ofNat z.toNat).toArray⟩
theorem Ep (zs:List Int):(iy zs).size=zs.length:=by simp[iy,ByteArray.size]
theorem OV (zs:List Int) (k:Nat) (h:k<zs.length):iy (zs.take k) ++ ⟨#[UInt8.ofNat (zs.getD k 0).toNat]⟩=iy (zs.take (k+1)):=by apply kD;rw[pI];apply sk.1;simp only[iy,uS,mq h,Ii,qF,Ob,fq zs k h]
def jr (k o:Int):ByteArray:=⟨#[UInt8.ofNat k.toNat,UInt8.ofNat o.toNat]⟩
theorem Es (k o:Int):(jr k o).size=2:=rfl
def sB (k o s:Int) (zs:List Int):ByteArray:=jr k o++iT s++iy zs
def df (k o s:Int) (zs:List Int):ByteArray:=if fe k o s zs then sB k o s zs++jm (12-zs.length) else ⟨#[]⟩
theorem IL (s:Int) (h0:0<=s) (h1:s<=65535):(iT s).size=2:=by
 rw[iT,show bp s 0 65535=true from bK ⟨h0,h1⟩]
 rfl
theorem zi {k o s:Int} {zs:List Int} (h:fe k o s zs=true):(0<=k/\k<=2)/\(0<=o/\o<=9)/\(0<=s/\s<=192)/\zs.length<=6/\(zs.length:Int)=dL s/\eE zs=true:=by
 have hh:∀ {o s:Int} {zs:List Int},fE o s zs=true->(0<=o/\o<=9)/\(0<=s/\s<=192)/\zs.length<=6/\(zs.length:Int)=dL s/\eE zs=true:=by intro o s zs h;simp only[fE,ca,dp] at h;have h1:=pN h.1;have h2:=pN h.2.1;have h3:=h.2.2.1;refine ⟨h1,h2,?_,h3,h.2.2.2⟩;unfold dL at h3;omega
 unfold fe at h;split at h
 ·rename_i e;simp only[jF,ca,dp] at h;have hz:zs=[]:=sn h.2.2;refine ⟨by omega,by omega,by omega,by omega,?_,?_⟩;·rw[h.2.1,h.2.2];decide
  rw[hz];rfl
 split at h
 ·rename_i e;exact ⟨by omega,hh h⟩
 split at h
 ·rename_i e;simp only[ca] at h;exact ⟨by omega,hh h.1⟩
 cases h
theorem By {zs:List Int} (h:eE zs=true) {k:Nat} (hk:k<zs.length):5<=zs.getD k 0/\zs.getD k 0<=23:=by
 have h1:pP zs k=true:=by
  cases hb:pP zs k with
  | true=>rfl
  | false=>rw[eE,zh hk hb] at h;cases h
 simp only[pP,ca] at h1;exact pN h1.1
theorem IM (k o s:Int) (zs:List Int) (h0:0<=s) (h1:s<=65535):(sB k o s zs).size=4+zs.length:=by rw[sB,ke,ke,Es,IL s h0 h1,Ep]
theorem ZM (k o s:Int) (zs:List Int):(df k o s zs).size<=16:=by
 unfold df;split
 ·rename_i h;obtain ⟨_,_,hs,hl,_⟩:=zi h;rw[ke,IM _ _ _ _ (by omega) (by omega),sw];omega
 exact bh _
def cu (s:ByteArray) (i:Int):Int:=if h:0<=i/\i+1<s.size then (s[i.toNat]'(by omega)).toNat+256*(s[(i+1).toNat]'(by omega)).toNat else 0
theorem ZN (s:ByteArray) (i:Int) (w:World) (hs:s.size<=281474976710656):Calls prog 182 #[.string s,aa i] w fun e w'=>e=.returned (aa (cu s i))/\∃ n,w'=w.drewN n:=by
 by_cases h1:i<0
 ·have e:cu s i=0:=by rw[cu,dif_neg (by omega)]
  rw[e];go_enter func182,ntmps182;go_wp2;go_ret;exact ⟨rfl,0,rfl⟩
 by_cases h2:(s.size:Int)-2<i
 ·have e:cu s i=0:=by rw[cu,dif_neg (by omega)]
  rw[e];go_enter func182,ntmps182;go_wp2;go_ret;exact ⟨rfl,0,rfl⟩
 have e:cu s i=(s[i.toNat]'(by omega)).toNat+256*(s[(i+1).toNat]'(by omega)).toNat:=by rw[cu,dif_pos (by omega)]
 rw[e];have h3:i<(s.size:Int):=by omega
 have h4:i+1<(s.size:Int):=by omega
 have h6:0<=i:=by omega
 have h7:0<=i+1:=by omega
 have b1:=(s[i.toNat]'(by omega)).toNat_lt;have b2:=(s[(i+1).toNat]'(by omega)).toNat_lt;go_enter func182,ntmps182;go_wp2;go_quiet (fail);go_wp2;go_ret;exact ⟨rfl,_,rfl⟩
theorem IN (s:ByteArray) (i:Int) (w:World) (hs:s.size<=281474976710656):Calls prog 31 #[.string s,aa i] w fun e w'=>e=.returned (aa (cu s i))/\∃ n,w'=w.drewN n:=by
 have hs':s.size<=maxLen:=by unfold maxLen;omega
 by_cases h:dq s.size i 2=true
 ·obtain ⟨h1,h2,h5⟩:=su h;have e:cu s i=(s[i.toNat]'(by omega)).toNat+(s[(i+1).toNat]'(by omega)).toNat*256:=by rw[cu,dif_pos (by omega),Int.mul_comm]
  rw[e];have h3:i<(s.size:Int):=by omega
  have h4:i+1<(s.size:Int):=by omega
  have h6:0<=i:=by omega
  have h7:0<=i+1:=by omega
  have b1:=(s[i.toNat]'(by omega)).toNat_lt;have b2:=(s[(i+1).toNat]'(by omega)).toNat_lt;go_enter func31,ntmps31;go_wp2_with (go_at_call 37;refine (pL _ _ _ _ hs').mono ?_;rintro e w' ⟨rfl,rfl⟩);go_quiet (fail);go_wp2;go_ret;exact ⟨rfl,_,rfl⟩
 have h':dq s.size i 2=false:=by simpa using h
 have e:cu s i=0:=by rw[cu,dif_neg (fun h9=>Zp h' (by omega))]
 rw[e];go_enter func31,ntmps31;go_wp2_with (go_at_call 37;refine (pL _ _ _ _ hs').mono ?_;rintro e w' ⟨rfl,rfl⟩);go_ret;exact ⟨rfl,0,rfl⟩
def bY (s:ByteArray):Nat:=min (dL (cu s 2)).toNat 12
def cH (s:ByteArray) (k:Nat):List Int:=(List.range k).map fun (j:Nat)=>aW s (4+(j:Int))
theorem uZ (s:ByteArray) (k:Nat):(cH s k).length=k:=by simp[cH]
theorem OW (s:ByteArray) (k:Nat):cH s k ++ [aW s (4+(k:Int))]=cH s (k+1):=by simp[cH,yR]
def zj (s:ByteArray):ByteArray:=df (aW s 0) (aW s 1) (cu s 2) (cH s (bY s))
def bM (s:ByteArray):Bool:=decide (s.size=16) && ((zj s).toList == s.toList)
def bg (s:ByteArray):Int:=if bM s then aW s 0 else 0
def bI (s:ByteArray):Int:=if bM s then aW s 1 else 0
def bU (s:ByteArray):Int:=if bM s then cu s 2 else 0
def aD (s:ByteArray):List Int:=if bM s then cH s (bY s) else []
theorem IP (s:ByteArray) (i:Int):0<=cu s i/\cu s i<=65535:=by
 unfold cu;split
 ·rename_i h;have h1:=(s[i.toNat]'(by omega)).toNat_lt;have h2:=(s[(i+1).toNat]'(by omega)).toNat_lt;omega
 omega
theorem ZO {x:Int} (h:0<=x):0<=dL x:=by unfold dL;omega
theorem va (s:ByteArray):bY s<=12:=YR _ _
theorem OX (s:ByteArray) (k:Nat):k<bY s ↔ (k:Int)<dL (cu s 2)/\k<12:=by have:=ZO (IP s 2).1;unfold bY;omega
theorem zm {s:ByteArray} (h:bM s=true):s.size=16/\(zj s).toList=s.toList/\fe (aW s 0) (aW s 1) (cu s 2) (cH s (bY s))=true:=by
 simp only[bM,ca,dp,tH] at h;refine ⟨h.1,h.2,?_⟩;cases hok:fe (aW s 0) (aW s 1) (cu s 2) (cH s (bY s)) with
 | true=>rfl
 | false=>
  have h2:=h.2;rw[zj,df,hok,aM (by decide)] at h2;have h3:=iw List.length h2;rw[yU,yU,<- dX,<- dX] at h3;rw[h.1] at h3;exact absurd h3 (by decide)
theorem OY {s:ByteArray} (h16:s.size=16) (h:((zj s).toList == s.toList)=true):bM s=true:=by rw[bM,bK h16,h];rfl
theorem OZ {s:ByteArray} (h:((zj s).toList == s.toList)=false):bM s=false:=by rw[bM,h,eS]
theorem O4 {s:ByteArray} (h:¬ s.size=16):bM s=false:=by rw[bM,bA h,dC]
theorem ZP {s:ByteArray} (h:fe (aW s 0) (aW s 1) (cu s 2) (cH s (bY s))=false):bM s=false:=by
 cases hi:bM s with
 | false=>rfl
 | true=>rw[(zm hi).2.2] at h;cases h
theorem zn {s:ByteArray} (h:bM s=false):bg s=0/\bI s=0/\bU s=0/\aD s=[]:=by simp[bg,bI,bU,aD,h]
theorem zp {s:ByteArray} (h:bM s=true):bg s=aW s 0/\bI s=aW s 1/\bU s=cu s 2/\aD s=cH s (bY s):=by simp[bg,bI,bU,aD,h]
def aZ (i:Int):Int:=if bp i 0 7 then 32+i*16 else -1
theorem Et (i:Int) (w:World):Calls prog 71 #[aa i] w (el (aa (aZ i)) w):=by
 by_cases h:bp i 0 7=true
 ·have e:aZ i=32+i*16:=by rw[aZ,aN h]
  obtain ⟨h1,h2⟩:=pN h;rw[e];go_enter func71,ntmps71;go_wp2_with (go_at_call 78;refine (fb _ _ _ _).mono ?_;rintro e w' ⟨rfl,rfl⟩);go_ret;exact ⟨rfl,rfl⟩
 have h':bp i 0 7=false:=by simpa using h
 have e:aZ i = -1:=by rw[aZ,aM h]
 rw[e];go_enter func71,ntmps71;go_wp2_with (go_at_call 78;refine (fb _ _ _ _).mono ?_;rintro e w' ⟨rfl,rfl⟩);go_ret;exact ⟨rfl,rfl⟩
theorem gP (i:Int) (w:World):Calls prog 17 #[aa i] w (el (aa (aZ i)) w):=by
 by_cases h1:i<0
 ·have e:aZ i = -1:=by rw[aZ,show bp i 0 7=false from bA (by omega)];rfl
  rw[e];go_enter func17,ntmps17;go_wp2;go_ret;exact ⟨rfl,rfl⟩
 by_cases h2:8<=i
 ·have e:aZ i = -1:=by rw[aZ,show bp i 0 7=false from bA (by omega)];rfl
  rw[e];go_enter func17,ntmps17;go_wp2;go_ret;exact ⟨rfl,rfl⟩
 have e:aZ i=32+i*16:=by rw[aZ,show bp i 0 7=true from bK (by omega)];rfl
 rw[e];go_enter func17,ntmps17;go_wp2;go_ret;exact ⟨rfl,rfl⟩
def lN (k:Int) (v:Value):Value:=if k=0 then .iface 86 v else if k=1 then .iface 88 v else if k=2 then .iface 90 v else .nilIface
theorem ZQ (o s:Int) (a:Option Addr) (c:Nat) (zs:List Int) (w:World) (hbig:zs.length<=281474976710656) (hcap:zs.length<=c) (hR:aK w a zs):Calls prog 35 #[aO 0 o s a zs.length c] w (aV (.tuple #[.iface 86 (aO 0 o s a zs.length c),.bool (jF o s zs)]) w):=by have hB:=aA w (.cells (bj 0 o s a zs.length c) 35);have hR':=hR.alloc (.cells (bj 0 o s a zs.length c) 35);go_enter func35,ntmps35;go_wp2_with (go_at_call 295;refine (ZJ 0 o s a c zs.length zs _ rfl).mono ?_;rintro e w' ⟨rfl,hb⟩);go_ret2;exact ⟨rfl,hB.trans (hb.mono hB.size)⟩
theorem ZR (o s:Int) (a:Option Addr) (c:Nat) (zs:List Int) (w:World) (hbig:zs.length<=281474976710656) (hcap:zs.length<=c) (hR:aK w a zs):Calls prog 35 #[aO 1 o s a zs.length c] w (aV (.tuple #[.iface 88 (aO 1 o s a zs.length c),.bool (fE o s zs)]) w):=by have hB:=aA w (.cells (bj 1 o s a zs.length c) 35);have hR':=hR.alloc (.cells (bj 1 o s a zs.length c) 35);go_enter func35,ntmps35;go_wp2_with (go_at_call 296;refine (ZK 1 o s a c zs _ hbig hcap hR').mono ?_;rintro e w' ⟨rfl,hb⟩);go_ret2;exact ⟨rfl,hB.trans (hb.mono hB.size)⟩
theorem ZS (o s:Int) (a:Option Addr) (c:Nat) (zs:List Int) (w:World) (hbig:zs.length<=281474976710656) (hcap:zs.length<=c) (hR:aK w a zs):Calls prog 35 #[aO 2 o s a zs.length c] w (aV (.tuple #[.iface 90 (aO 2 o s a zs.length c),.bool (fE o s zs && decide (s % 16=0))]) w):=by have hB:=aA w (.cells (bj 2 o s a zs.length c) 35);have hR':=hR.alloc (.cells (bj 2 o s a zs.length c) 35);go_enter func35,ntmps35;go_wp2_with (go_at_call 299;refine (ZL 2 o s a c zs _ hbig hcap hR').mono ?_;rintro e w' ⟨rfl,hb⟩);go_ret2;exact ⟨rfl,hB.trans (hb.mono hB.size)⟩
theorem ZT (k o s:Int) (a:Option Addr) (c n:Nat) (w:World) (h0:k≠0) (h1:k≠1) (h2:k≠2):Calls prog 35 #[aO k o s a n c] w (aV (.tuple #[.nilIface,.bool false]) w):=by
 have hB:=aA w (.cells (bj k o s a n c) 35);have g0:(k == 0)=false:=by simpa using h0
 have g1:(k == 1)=false:=by simpa using h1
 have g2:(k == 2)=false:=by simpa using h2
 go_enter func35,ntmps35;go_wp2;go_ret2;exact ⟨rfl,hB⟩
theorem Eu (k o s:Int) (a:Option Addr) (c:Nat) (zs:List Int) (w:World) (hbig:zs.length<=281474976710656) (hcap:zs.length<=c) (hR:aK w a zs):Calls prog 35 #[aO k o s a zs.length c] w (aV (.tuple #[lN k (aO k o s a zs.length c),.bool (fe k o s zs)]) w):=by
 by_cases h0:k=0
 ·subst h0;exact ZQ o s a c zs w hbig hcap hR
 by_cases h1:k=1
 ·subst h1;exact ZR o s a c zs w hbig hcap hR
 by_cases h2:k=2
 ·subst h2;exact ZS o s a c zs w hbig hcap hR
 have e1:lN k (aO k o s a zs.length c)=.nilIface:=by rw[lN,aM h0,aM h1,aM h2]
 have e2:fe k o s zs=false:=by rw[fe,aM h0,aM h1,aM h2]
 rw[e1,e2];exact ZT k o s a c zs.length w h0 h1 h2
theorem O5 (k o s:Int) (a:Option Addr) (c:Nat) (zs:List Int) (w:World) (hbig:zs.length<=281474976710656) (hcap:zs.length<=c) (hR:aK w a zs):Calls prog 227 #[aO k o s a zs.length c] w (aV (.bool (fe k o s zs)) w):=by have hB:=aA w (.cells (bj k o s a zs.length c) 35);have hR':=hR.alloc (.cells (bj k o s a zs.length c) 35);go_enter func227,ntmps227;go_wp2_with (go_at_call 35;refine (Eu k o s a c zs _ hbig hcap hR').mono ?_;rintro e w' ⟨rfl,hb⟩);go_ret;exact ⟨rfl,hB.trans (hb.mono hB.size)⟩
theorem ZU (o s:Int) (a:Option Addr) (c n:Nat) (zs:List Int) (w:World) (hn:n=zs.length):Calls prog 118 #[aO 0 o s a n c] w (aV (.bool (jF o s zs)) w):=by
 have hB:=aA w (.cells (bj 0 o s a n c) 35);by_cases h1:o=0
 ·subst h1;by_cases h2:s=0
  ·subst h2;by_cases h3:n=0
   ·have HR:Hid (jF 0 0 zs=true):=by rw[jF,<- hn,h3];rfl
    subst h3;clear hn;go_enter func118,ntmps118;go_wp2;go_ret;exact ⟨cr HR.out.symm,hB⟩
   have HR:Hid (jF 0 0 zs=false):=by rw[jF,<- hn,bA h3];rfl
   have h3':((n:Int) == 0)=false:=by simp;omega
   clear hn;go_enter func118,ntmps118;go_wp2;go_ret;exact ⟨cr HR.out.symm,hB⟩
  have HR:Hid (jF 0 s zs=false):=by rw[jF,bA h2,dC,eS];rfl
  have h2':(s == 0)=false:=by simpa using h2
  clear hn;go_enter func118,ntmps118;go_wp2;go_ret;exact ⟨cr HR.out.symm,hB⟩
 have HR:Hid (jF o s zs=false):=by rw[jF,bA h1,dC];rfl
 have h1':(o == 0)=false:=by simpa using h1
 clear hn;go_enter func118,ntmps118;go_wp2;go_ret;exact ⟨cr HR.out.symm,hB⟩
theorem ZV (k o s:Int) (a:Option Addr) (c:Nat) (zs:List Int) (w:World) (hbig:zs.length<=281474976710656) (hcap:zs.length<=c) (hR:aK w a zs) (h0:k≠0):Calls prog 118 #[aO k o s a zs.length c] w (aV (.bool (fe k o s zs)) w):=by
  have hB:=aA w (.cells (bj k o s a zs.length c) 35);have hR':=hR.alloc (.cells (bj k o s a zs.length c) 35);have hP:Hid (∀ m,Calls prog 173 #[.slice a zs.length c] ((w.alloc (.cells (bj k o s a zs.length c) 35)).drewN m) fun e w'=>e=.returned (.bool (eE zs))/\∃ n,w'=((w.alloc (.cells (bj k o s a zs.length c) 35)).drewN m).drewN n):=fun m=>OS a c zs _ hbig hcap (hR'.drewN m);clear hR hR';have z0:(k == 0)=false:=by simpa using h0
  by_cases hS:bp s 0 192=true
  · obtain ⟨hs1,hs2⟩:=pN hS;by_cases hd:k=2/\¬ s % 16=0
    · obtain ⟨rfl,h16⟩:=hd;have WG:(s % 16 != 0)=true:=by simpa using h16
      have HR:Hid (fe 2 o s zs=false):=by
        show (fE o s zs && decide (s % 16=0))=false
        rw[bA h16,eS]
      clear h16;go_enter func118,ntmps118;go_wp2;go_ret;exact ⟨cr HR.out.symm,hB⟩
    have HK:Hid (bp k 1 2=true->fe k o s zs=fE o s zs):=fun h=>by
      obtain ⟨k1,k2⟩:=pN h;by_cases e1:k=1;· subst e1;rfl
      have e2:k=2:=by omega
      have h16:s % 16=0:=al9 fun h=>hd ⟨e2,h⟩;subst e2;show (fE o s zs && decide (s % 16=0))=fE o s zs
      rw[bK h16,NY]
    have HN:Hid (bp k 1 2=false->fe k o s zs=false):=fun h=>by have:=Zq h;rw[fe,aM h0,aM (by omega),aM (by omega)]
    have hg:(k == 2)=false\/((k == 2)=true/\(s % 16 != 0)=false):=by
      by_cases e2:k=2
      · right;refine ⟨by simpa using e2,?_⟩;have h16:s % 16=0:=al9 fun h=>hd ⟨e2,h⟩;simpa using h16
      left;simpa using e2
    have HH:Hid (fE o s zs=(bp o 0 9 && (decide ((zs.length:Int)=dL s) && eE zs))):=by rw[fE,hS,fJ];rfl
    clear hd h0;by_cases g0:bp k 1 2=true
    · by_cases g1:bp o 0 9=true
      · by_cases g2:(zs.length:Int)=dL s
        · have g2':((zs.length:Int) == dL s)=true:=by simpa using g2
          have HR:Hid (fe k o s zs=eE zs):=by rw[HK.out g0,HH.out,g1,bK g2];rfl
          clear g2;rcases hg with hg | ⟨hg,hg2⟩;all_goals
            go_enter func118,ntmps118;go_wp2;go_quiet ((first | (go_at_call 78;first | exact jq (fb _ _ _ _) g0 | exact jq (fb _ _ _ _) g1 | exact jq (fb _ _ _ _) hS) | (go_at_call 172;exact yS (IJ _ _ (by omega) (by omega))) | (go_at_call 173;exact Calls.quiet_of (hP.out _))));go_wp2;go_ret;exact ⟨cr HR.out.symm,sA _ _ _⟩
        have g2':((zs.length:Int) == dL s)=false:=by simpa using g2
        have HR:Hid (fe k o s zs=false):=by rw[HK.out g0,HH.out,bA g2,dC,eS];rfl
        clear g2;rcases hg with hg | ⟨hg,hg2⟩;all_goals
          go_enter func118,ntmps118;go_wp2;go_quiet ((first | (go_at_call 78;first | exact jq (fb _ _ _ _) g0 | exact jq (fb _ _ _ _) g1 | exact jq (fb _ _ _ _) hS) | (go_at_call 172;exact yS (IJ _ _ (by omega) (by omega)))));go_wp2;go_ret;exact ⟨cr HR.out.symm,sA _ _ _⟩
      have g1':bp o 0 9=false:=by simpa using g1
      have HR:Hid (fe k o s zs=false):=by rw[HK.out g0,HH.out,g1',dC];rfl
      rcases hg with hg | ⟨hg,hg2⟩;all_goals
        go_enter func118,ntmps118;go_wp2;go_quiet ((go_at_call 78;first | exact jq (fb _ _ _ _) g0 | exact jq (fb _ _ _ _) g1'));go_wp2;go_ret;exact ⟨cr HR.out.symm,sA _ _ _⟩
    have g0':bp k 1 2=false:=by simpa using g0
    have HR:Hid (fe k o s zs=false):=HN.out g0';rcases hg with hg | ⟨hg,hg2⟩;all_goals
      go_enter func118,ntmps118;go_wp2;go_quiet ((go_at_call 78;exact jq (fb _ _ _ _) g0'));go_wp2;go_ret;exact ⟨cr HR.out.symm,sA _ _ _⟩
  have hS':bp s 0 192=false:=by simpa using hS
  have HR:Hid (fe k o s zs=false):=by
    show fe k o s zs=false
    have hf:fE o s zs=false:=by rw[fE,hS',dC,eS]
    rw[fe,aM h0];split;· exact hf
    split;· rw[hf];rfl
    rfl
  clear hS;have hg:(k == 2)=false\/(k == 2)=true:=by cases (k == 2) <;> simp
  by_cases g0:bp k 1 2=true
  · by_cases g1:bp o 0 9=true
    · rcases hg with hg | hg;all_goals
        go_enter func118,ntmps118;go_wp2;all_goals first
          | (go_ret
             exact ⟨cr HR.out.symm,hB⟩)
          | (go_quiet ((go_at_call 78;first | exact jq (fb _ _ _ _) g0 | exact jq (fb _ _ _ _) g1 | exact jq (fb _ _ _ _) hS'))
             go_wp2;go_ret;exact ⟨cr HR.out.symm,sA _ _ _⟩)
    have g1':bp o 0 9=false:=by simpa using g1
    rcases hg with hg | hg;all_goals
      go_enter func118,ntmps118;go_wp2;all_goals first
        | (go_ret
           exact ⟨cr HR.out.symm,hB⟩)
        | (go_quiet ((go_at_call 78;first | exact jq (fb _ _ _ _) g0 | exact jq (fb _ _ _ _) g1'))
           go_wp2;go_ret;exact ⟨cr HR.out.symm,sA _ _ _⟩)
  have g0':bp k 1 2=false:=by simpa using g0
  rcases hg with hg | hg;all_goals
    go_enter func118,ntmps118;go_wp2;all_goals first
      | (go_ret
         exact ⟨cr HR.out.symm,hB⟩)
      | (go_quiet ((go_at_call 78;exact jq (fb _ _ _ _) g0'))
         go_wp2;go_ret;exact ⟨cr HR.out.symm,sA _ _ _⟩)
theorem O6 (k o s:Int) (a:Option Addr) (c:Nat) (zs:List Int) (w:World) (hbig:zs.length<=281474976710656) (hcap:zs.length<=c) (hR:aK w a zs):Calls prog 118 #[aO k o s a zs.length c] w (aV (.bool (fe k o s zs)) w):=by
 by_cases h0:k=0
 ·subst h0;exact ZU o s a c zs.length zs w rfl
 exact ZV k o s a c zs w hbig hcap hR h0
section
open Go.Joins
section
variable {H : Type} {enc : TypeId × Value → H} {w : World}
end
abbrev cR (zs:List Int):List Value:=zs.map fun z=>.int .i64 z
theorem wU {W:World} {g:Nat} {zs:List Int} (h:az g (cR zs) W):aK W (some ⟨g,0,none⟩) zs:=by refine Or.inr ⟨g,0,rfl,h.lt,fun j hj=>?_⟩;rw[dW,h.cell j (by simpa using hj)];simp[List.getD,hj]
theorem vc:(prog.info? 3).map (fun i=>(i.zero,i.size,i.bytes))=some (some (aa 0),1,8):=by kernel_rfl
end
section
def fB (base:Nat) (w:World) (g n cap:Nat) (t:ByteArray):Prop:=n=t.size/\w.ownsRow base 5 1 (.slice (some ⟨g,0,none⟩) n cap) n (Lib.strCells t)
theorem Ew:(prog.info? 5).map (fun i=>(i.zero,i.size,i.bytes))=some (some (.int .u8 0),1,1):=by kernel_rfl
variable {base g n cap : Nat} {w W : World} {t : ByteArray}
theorem vd {e:TypeId} {size:Nat} {v:Value} {xs:List Value} (h:w.ownsRow base e size v n xs) (hb:ah w W):W.ownsRow base e size v n xs:=by
 refine ⟨h.1,?_⟩;rcases h.2 with h0 | ⟨g,cap,cur,hv,hg,hc,r⟩;·exact Or.inl h0
 refine Or.inr ⟨g,cap,cur,hv,hg,?_,r⟩;rw[hb.block g (nz.1 hc).1];exact hc
theorem mw {B:Nat} {w W W':World} {row:Option Nat} (h:Below B w W) (hg:W.grownBy W' row) (hr:∀ g,row=some g->B<=g) (hB:B<=W.heap.size):Below B w W':=
 ⟨hg.os.trans h.os,hg.tape.trans h.tape,hg.output.trans h.output,br h.size hg.size,fun k hk=>by rw[hg.block k (by omega) (fun e=>by have:=hr k e.symm;omega)];exact h.block k hk⟩
theorem fB.below (h:fB base w g n cap t) (hb:ah w W):fB base W g n cap t:=⟨h.1,vd h.2 hb⟩
theorem fB.alloc (h:fB base w g n cap t) (o:Obj):fB base (w.alloc o) g n cap t:=h.below ((aQ _ _).alloc (av _) o)
theorem fB.drew (h:fB base w g n cap t):fB base w.drew g n cap t:=h
theorem fB.lt (h:fB base w g n cap t):base<=g/\g<w.heap.size:=h.2.lt g rfl
theorem fB.holds (h:fB base w g n cap t):wO w g 0 t.data.toList:=by
 intro j hj;have hj':j<t.size:=by rw[dX];exact hj
 have:=h.2.cells (g:=g) rfl j (.int .u8 (t.data.toList[j].toNat:Int)) (by
  have hj2:j<t.data.size:=by simpa using hj
  simp[Lib.strCells];exact ⟨_,ama hj2,rfl⟩)
 rw[qL] at this;exact this
theorem fB.conv (h:fB base w g n cap t):(convert 22 9 (aH g n cap)).run prog w=.ok (.string t) w:=by have:=tM (P:=prog) w 22 9 5 g 0 cap t.data.toList underlying22 underlying5 underlying9 h.holds n (by rw[h.1,dX]);rwa [Bc] at this
theorem O7 (w:World) (x y:Int) (hx:0<=x/\x<256) (hy:0<=y/\y<256) (hb:base<=w.heap.size):fB base (w.alloc (.cells #[.int .u8 x,.int .u8 y] 5)) w.heap.size 2 2 ⟨#[UInt8.ofNat x.toNat,UInt8.ofNat y.toNat]⟩:=by
 have e1:x.toNat<256:=by omega
 have e2:y.toNat<256:=by omega
 refine ⟨rfl,by simp[Lib.strCells],Or.inr ⟨w.heap.size,2,#[.int .u8 x,.int .u8 y],rfl,hb,nA w _,av _,by unfold maxLen;omega,rfl,?_⟩⟩;simp[Lib.strCells,NZ e1,NZ e2];omega
theorem fB.at (h:fB base w g n cap t) {g':Nat} (e:g=g'):fB base w g' n cap t:=e ▸ h
theorem O8 (w:World) (C:Array Value) (cap:Nat) (hc:C.size=cap) (hm:cap<=maxLen) (hb:base<=w.heap.size):fB base (w.alloc (.cells C 5)) w.heap.size 0 cap ⟨#[]⟩:=⟨rfl,uT w C cap hb hm (by omega)⟩
theorem O9 (t s:ByteArray):Lib.strCells t++Lib.strCells s=Lib.strCells (t++s):=by simp[Lib.strCells,pI]
theorem IQ {ops:Array Oper} {rest:List Oper} {o:Oper} {a:Act} {Q:Exit->Act->World->Prop} (hgd:o.guard=none) (sl x:Operand) (ho:o.op=.call { callee:=.builtin .append,args:=#[sl,x],argTypes:=#[22,9] }) (hbuf:fB base w g n cap t) (s:ByteArray) (hs:a.eval sl=aH g n cap) (hx:a.eval x=.string s) (hlen:n+s.size<=140737488355328) (hb:base<=w.heap.size) (h:∀ g' cap' w',fB base w' g' (n+s.size) cap' (t++s)->Below base w w'->wpList prog ops Q rest (a.put o.dst (aH g' (n+s.size) cap')) w'):wpList prog ops Q (o :: rest) a w:=by
 obtain ⟨i0,hi,hz0,hz1,hz2⟩:=iv Ew;refine Lib.wpList_append_own_string w hgd sl x 22 9 ho base 5 i0 underlying22 underlying9 hi hz0 hz1 hz2 _ n _ hs hbuf.2 s hx (by unfold maxLen;omega) hlen hb ?_;intro v' w' ho' hg' hnil;rcases ho'.2 with ⟨h0,_⟩ | ⟨g',cap',cur,hv,r⟩;·exact absurd ((hnil.1 h0).1) (by simp)
 subst hv;refine h g' cap' w' ⟨by rw[hbuf.1,ke],?_⟩ ?_
 ·rw[<- O9];exact ho'
 exact mw (aQ _ _) hg' (fun k hk=>by
  have hk':g=k:=by simpa [Value.ownBlock] using hk
  exact hk' ▸ hbuf.lt.1) hb
theorem ZW (c:Int):∀ u ∈ [Value.int .u8 c],u.oneCell'=true:=by intro u h;simp at h;subst h;rfl
theorem Pa {ops:Array Oper} {rest:List Oper} {o:Oper} {a:Act} {Q:Exit->Act->World->Prop} (hgd:o.guard=none) (sl x:Operand) (ho:o.op=.call { callee:=.builtin .append,args:=#[sl,x],argTypes:=#[22,22] }) (hbuf:fB base w g n cap t) (c:Int) (hc:0<=c/\c<256) (hs:a.eval sl=aH g n cap) (hx:a.eval x=aH w.heap.size 1 1) (hlen:n+1<=140737488355328) (hb:base<=w.heap.size) (h:∀ g' cap' w',fB base w' g' (n+1) cap' (t ++ ⟨#[UInt8.ofNat c.toNat]⟩)->Below base w w'->wpList prog ops Q rest (a.put o.dst (aH g' (n+1) cap')) w'):wpList prog ops Q (o :: rest) a (w.alloc (.cells #[.int .u8 c] 5)):=by
 obtain ⟨i0,hi,hz0,hz1,hz2⟩:=iv Ew;have hb2:=hbuf.alloc (.cells #[.int .u8 c] 5);refine qG _ hgd sl x 22 ho base 5 i0 (.int .u8 0) 1 1 underlying22 hi hz0 hz1 hz2 rfl (by omega) _ n _ hs hb2.2 ⟨w.heap.size,0,none⟩ 1 1 [.int .u8 c] hx rfl (uU (nA w _)) (ZW c) (by omega) (by unfold maxLen;omega) (by omega) (by simp;omega) _ rfl ?_;intro g' cap' w' ho' hg' _ _;have e1:c.toNat<256:=by omega
 refine h g' cap' w' ⟨by rw[hbuf.1,ke];rfl,?_⟩ ?_
 ·rw[<- O9];have e:Lib.strCells ⟨#[UInt8.ofNat c.toNat]⟩=[.int .u8 c]:=by
   simp[Lib.strCells,NZ e1];omega
  rw[e];exact ho'
 exact mw ((aQ _ _).alloc hb _) hg' (fun k hk=>by
  have hk':g=k:=by simpa [Value.ownBlock] using hk
  exact hk' ▸ hbuf.lt.1) (by simp;omega)
end
section
def bH (base:Nat) (w:World) (a:Option Addr) (n cap:Nat) (zs:List Int):Prop:=n=zs.length/\w.ownsRow base 3 1 (.slice a n cap) n (cR zs)
variable {base n cap : Nat} {a : Option Addr} {w W : World} {zs : List Int}
theorem gd {B B0:Nat} {vs:List Value} (h:az B vs w) (hb:Below B0 w W) (hlt:B<B0):az B vs W:=⟨fun j hj=>(hb.cell (p:=⟨B,j,none⟩) hlt).trans (h.cell j hj),fun j hj=>(hb.frozen (p:=⟨B,j,none⟩) hlt).trans (h.free j hj),cv h.lt hb.size⟩
theorem bH.below (h:bH base w a n cap zs) (hb:ah w W):bH base W a n cap zs:=⟨h.1,vd h.2 hb⟩
theorem bH.alloc (h:bH base w a n cap zs) (o:Obj):bH base (w.alloc o) a n cap zs:=h.below ((aQ _ _).alloc (av _) o)
theorem bH.drew (h:bH base w a n cap zs):bH base w.drew a n cap zs:=h
theorem bH.drewN (h:bH base w a n cap zs) (m:Nat):bH base (w.drewN m) a n cap zs:=h
theorem Bz (w:World):bH base w none 0 0 []:=⟨rfl,rfl,Or.inl ⟨rfl,rfl⟩⟩
theorem lP (w:World) (hb:base<=w.heap.size):bH base (w.alloc (.cells #[] 3)) (some ⟨w.heap.size,0,none⟩) 0 0 []:=⟨rfl,uT w #[] 0 hb (bh _) rfl⟩
theorem bH.fits (h:bH base w a n cap zs):n<=cap:=by
 rcases h.2.2 with ⟨h0,h1⟩ | ⟨g,c,cur,hv,_,_,hle,_⟩;·omega
 simp at hv;omega
def aR (base:Nat) (W:World) (a:Option Addr) (zs:List Int):Prop:=zs=[]\/∃ g,a=some ⟨g,0,none⟩/\base<=g/\az g (cR zs) W
theorem bH.own (h:bH base w a n cap zs):aR base w a zs:=by
 rcases h.2.2 with ⟨h0,h1⟩ | ⟨g,c,cur,hv,hg,hc,hle,_,hs,ht⟩
 ·left;exact sn (by rw[<- h.1];exact h1)
 right;simp at hv;refine ⟨g,hv.1,hg,⟨fun j hj=>?_,fun j hj=>?_,(nz.1 hc).1⟩⟩
 ·have hcell:w.cell? ⟨g,j,none⟩=cur[j]?:=by
   unfold World.cell?;rw[hc];simp
  have hj':j<zs.length:=by simpa using hj
  have e1:(cur.toList.take (n*1))[j]? = (cR zs)[j]?:=by rw[ht]
  rw[yV (by have:=h.1;omega)] at e1;rw[hcell,<- DS,e1];simp[hj']
 unfold World.frozen?;rw[hc];simp
theorem aR.row (h:aR base W a zs):aK W a zs:=by
 rcases h with h | ⟨g,rfl,_,hb⟩;·exact Or.inl h
 exact wU hb
theorem aR.below {W':World} (h:aR base W a zs) (hb:ah W W'):aR base W' a zs:=by
 rcases h with h | ⟨g,e,hg,hk⟩;·exact Or.inl h
 exact Or.inr ⟨g,e,hg,hk.below hb⟩
theorem aR.alloc (h:aR base W a zs) (o:Obj):aR base (W.alloc o) a zs:=h.below ((aQ _ _).alloc (av _) o)
theorem aR.drew (h:aR base W a zs):aR base W.drew a zs:=h.imp id fun ⟨g,e,hg,hk⟩=>⟨g,e,hg,hk.drew⟩
theorem aR.drewN (h:aR base W a zs) (m:Nat):aR base (W.drewN m) a zs:=h.imp id fun ⟨g,e,hg,hk⟩=>⟨g,e,hg,hk.drewN m⟩
theorem aR.mono {base':Nat} (h:aR base W a zs) (hb:base'<=base):aR base' W a zs:=by
 rcases h with h | ⟨g,e,hg,hk⟩;·exact Or.inl h
 exact Or.inr ⟨g,e,br hb hg,hk⟩
theorem aR.set (h:aR base W a zs) {B:Nat} (hB:B<base) (j:Nat) (v:Value):aR base (W.setCell ⟨B,j,none⟩ v) a zs:=by
 rcases h with h | ⟨g,e,hg,hk⟩;·exact Or.inl h
 exact Or.inr ⟨g,e,hg,hk.aP (by omega) j v⟩
theorem Pb (c:Int):∀ u ∈ [Value.int .i64 c],u.oneCell'=true:=by intro u h;simp at h;subst h;rfl
theorem zr (h:bH base w a n cap zs):∀ g,(Value.slice a n cap).ownBlock=some g->base<=g:=fun g hg=>(h.2.lt g hg).1
theorem Pc (zs:List Int) (z:Int):cR zs ++ [aa z]=cR (zs ++ [z]):=by simp
theorem BA {ops:Array Oper} {rest:List Oper} {o:Oper} {A:Act} {Q:Exit->Act->World->Prop} (hgd:o.guard=none) (sl x:Operand) (ho:o.op=.call { callee:=.builtin .append,args:=#[sl,x],argTypes:=#[29,29] }) (hbuf:bH base w a n cap zs) (z:Int) (hs:A.eval sl=.slice a n cap) (hx:A.eval x=aH w.heap.size 1 1) (hlen:n+1<=1048576) (hb:base<=w.heap.size) (h:∀ g' cap' w',bH base w' (some ⟨g',0,none⟩) (n+1) cap' (zs ++ [z])->Below base w w'->wpList prog ops Q rest (A.put o.dst (aH g' (n+1) cap')) w'):wpList prog ops Q (o :: rest) A (w.alloc (.cells #[aa z] 3)):=by
 obtain ⟨i0,hi,hz0,hz1,hz2⟩:=iv vc;have hb2:=hbuf.alloc (.cells #[aa z] 3);refine qG _ hgd sl x 29 ho base 3 i0 (aa 0) 1 8 underlying29 hi hz0 hz1 hz2 rfl (by omega) _ n _ hs hb2.2 ⟨w.heap.size,0,none⟩ 1 1 [aa z] hx rfl (uU (nA w _)) (Pb z) (by omega) (by unfold maxLen;omega) (by omega) (by simp;omega) _ rfl ?_;intro g' cap' w' ho' hg' _ _;refine h g' cap' w' ⟨by rw[hbuf.1];simp,?_⟩ ?_
 ·rw[<- Pc];exact ho'
 exact mw ((aQ _ _).alloc hb _) hg' (zr hbuf) (by simp;omega)
theorem ZX {ops:Array Oper} {o:Oper} {A:Act} {K:Act->World->Prop} {Q:Exit->Act->World->Prop} {E:Prop} (hgd:o.guard=none) (sl x:Operand) (ho:o.op=.call { callee:=.builtin .append,args:=#[sl,x],argTypes:=#[29,29] }) (hbuf:bH base w a n cap zs) (z:Int) (hs:A.eval sl=.slice a n cap) (hx:A.eval x=aH w.heap.size 1 1) (hlen:n+1<=1048576) (hb:base<=w.heap.size) (h:∀ g' cap' w',bH base w' (some ⟨g',0,none⟩) (n+1) cap' (zs ++ [z])->Below base w w'->K (A.put o.dst (aH g' (n+1) cap')) w'):if Region.wanted o (yielded ops A.tmps)=true then Oper.wp prog o A (w.alloc (.cells #[aa z] 3)) K Q else E:=by
 obtain ⟨i0,hi,hz0,hz1,hz2⟩:=iv vc;have hb2:=hbuf.alloc (.cells #[aa z] 3);refine YS _ hgd sl x 29 ho base 3 i0 (aa 0) 1 8 underlying29 hi hz0 hz1 hz2 rfl (by omega) _ n _ hs hb2.2 ⟨w.heap.size,0,none⟩ 1 1 [aa z] hx rfl (uU (nA w _)) (Pb z) (by omega) (by unfold maxLen;omega) (by omega) (by simp;omega) _ rfl ?_;intro g' cap' w' ho' hg' _ _;refine h g' cap' w' ⟨by rw[hbuf.1];simp,?_⟩ ?_
 ·rw[<- Pc];exact ho'
 exact mw ((aQ _ _).alloc hb _) hg' (zr hbuf) (by simp;omega)
end
section
variable {P : Program} {ops : Array Oper} {Q : Exit → Act → World → Prop} {md : Region.Mode} {S : World → Prop} {oi : Oper} {fuel : Nat} {listed l' : Array Bool} {a a' : Act} {w : World}
theorem aT (i:Nat) (v:Value) (hS:S w) (h:wpAnyH P md ops Q S fuel l' a' w) (hi:ops[i]? = some oi:=by exact rfl) (hl:listed.setIfInBounds i true=l':=by (try simp only[ar]);exact rfl) (ha:a.put oi.dst v=a':=by (try simp only[ar,Act.put,Nat.reduceAdd]);exact rfl) (hs:Region.noSelect ops=true:=by kernel_rfl) (hf:Region.free md ops listed i=true:=by kernel_rfl) (hr:(Region.ready md ops listed).contains i=true:=by kernel_rfl) (hQ:∀ c a w,Q (.panic c) (a.put oi.dst v) w->Q (.panic c) a w:=by exact fun _ _ _ h=>h) (hw:Region.wanted oi (yielded ops a.tmps)=true:=by rfl) (hy:∀ w,S w->(execOp a.eval oi).run P w=.ok (.value v) w:=by exact fun w' hS'=>by rfl):wpAnyH P md ops Q S (fuel+1) listed a w:=by subst hl ha;exact gJ hi hs hf hr hQ (Or.inl ⟨hw,hy⟩) hS h
theorem aS (i:Nat) (v:Value) (hS:S w) (h:wpAnyH P md ops Q S fuel l' a' w) (hi:ops[i]? = some oi:=by exact rfl) (hl:listed.setIfInBounds i true=l':=by (try simp only[ar]);exact rfl) (ha:a.put oi.dst v=a':=by (try simp only[ar,Act.put,Nat.reduceAdd]);exact rfl) (hs:Region.noSelect ops=true:=by kernel_rfl) (hf:Region.free md ops listed i=true:=by kernel_rfl) (hr:(Region.ready md ops listed).contains i=true:=by kernel_rfl) (hQ:∀ c a w,Q (.panic c) (a.put oi.dst v) w->Q (.panic c) a w:=by exact fun _ _ _ h=>h) (hw:Region.wanted oi (yielded ops a.tmps)=true:=by rfl) (hy:∀ w,S w->(execOp a.eval oi).run P w=.ok (.value v) w:=by intro w' hS';(try dsimp only at hS');go_split_ands;go_simp):wpAnyH P md ops Q S (fuel+1) listed a w:=by subst hl ha;exact gJ hi hs hf hr hQ (Or.inl ⟨hw,hy⟩) hS h
theorem IS (i:Nat) (v:Value) (hi:ops[i]? = some oi) (hy:∀ w,S w->(execOp a.eval oi).run P w=.ok (.value v) w) (hS:S w) (h:wpAnyH P md ops Q S fuel l' a' w) (hl:listed.setIfInBounds i true=l':=by (try simp only[ar]);exact rfl) (ha:a.put oi.dst v=a':=by (try simp only[ar,Act.put,Nat.reduceAdd]);exact rfl) (hs:Region.noSelect ops=true:=by kernel_rfl) (hf:Region.free md ops listed i=true:=by kernel_rfl) (hr:(Region.ready md ops listed).contains i=true:=by kernel_rfl) (hQ:∀ c a w,Q (.panic c) (a.put oi.dst v) w->Q (.panic c) a w:=by exact fun _ _ _ h=>h) (hw:Region.wanted oi (yielded ops a.tmps)=true:=by rfl):wpAnyH P md ops Q S (fuel+1) listed a w:=by subst hl ha;exact gJ hi hs hf hr hQ (Or.inl ⟨hw,hy⟩) hS h
theorem bT (i:Nat) (hS:S w) (h:wpAnyH P md ops Q S fuel l' a' w) (hi:ops[i]? = some oi:=by exact rfl) (hl:listed.setIfInBounds i true=l':=by (try simp only[ar]);exact rfl) (ha:a.put oi.dst undef=a':=by (try simp only[ar,Act.put,Nat.reduceAdd]);exact rfl) (hs:Region.noSelect ops=true:=by kernel_rfl) (hf:Region.free md ops listed i=true:=by kernel_rfl) (hr:(Region.ready md ops listed).contains i=true:=by kernel_rfl) (hQ:∀ c a w,Q (.panic c) (a.put oi.dst undef) w->Q (.panic c) a w:=by exact fun _ _ _ h=>h) (hw:Region.wanted oi (yielded ops a.tmps)=false:=by rfl):wpAnyH P md ops Q S (fuel+1) listed a w:=by subst hl ha;exact gJ hi hs hf hr hQ (Or.inr ⟨hw,rfl⟩) hS h
end
section
variable {P : Program} {Q : Exit → Act → World → Prop} {ops : Array Oper}
theorem iU {c:Prop} [Decidable c] {p q:Prop} (hc:c) (hp:p):if c then p else q:=by rw[aN hc];exact hp
theorem ZY {S:World->Prop} {a:Act} {w:World} {i f:Nat} {o:Oper} {listed:Array Bool} {fuel:Nat} {md:Region.Mode} (hr:Region.ready md ops listed=[i]) (ho:ops[i]? = some o) (hg:o.guard=none) (x:Operand) (ts:Array TypeId) (hop:o.op=.call { callee:=.value (.func f),args:=#[x],argTypes:=ts }) (v:Value) (hx:a.eval x=v) (eg:∀ args w,(callFunc f args).run P w=.ok (.enter f args) w) (hc:Calls P f #[v] w fun e w'=>∃ u,e=.returned u/\S w'/\wpAnyH P md ops Q S fuel (listed.setIfInBounds i true) (a.put o.dst u) w'):wpAnyH P md ops Q S (fuel+1) listed a w:=by
 refine tI hr (by simp) ?_;intro j hj;obtain rfl:j=i:=by simpa using hj
 unfold wpOp;rw[ho];refine iU (by rw[Region.wanted,hg]) (.inl ?_);have he:(execOp a.eval o).run P w=.ok (.enter f #[v]) w:=by subst hx;simp[execOp,hop,resolve,go_sem,invoke,eg]
 unfold Oper.wp;rw[he];refine kZ hc ?_;rintro e w' ⟨u,rfl,h⟩;exact h
theorem gQ {S:World->Prop} {a:Act} {w:World} {i f:Nat} {o:Oper} {listed:Array Bool} {fuel:Nat} {md:Region.Mode} (hr:Region.ready md ops listed=[i]) (ho:ops[i]? = some o) (hw:Region.wanted o (yielded ops a.tmps)=true) (x:Operand) (ts:Array TypeId) (hop:o.op=.call { callee:=.value (.func f),args:=#[x],argTypes:=ts }) (v:Value) (hx:a.eval x=v) (eg:∀ args w,(callFunc f args).run P w=.ok (.enter f args) w) (hc:Calls P f #[v] w fun e w'=>∃ u,e=.returned u/\S w'/\wpAnyH P md ops Q S fuel (listed.setIfInBounds i true) (a.put o.dst u) w'):wpAnyH P md ops Q S (fuel+1) listed a w:=by
 refine tI hr (by simp) ?_;intro j hj;obtain rfl:j=i:=by simpa using hj
 unfold wpOp;rw[ho];refine iU hw (.inl ?_);have he:(execOp a.eval o).run P w=.ok (.enter f #[v]) w:=by subst hx;simp[execOp,hop,resolve,go_sem,invoke,eg]
 unfold Oper.wp;rw[he];refine kZ hc ?_;rintro e w' ⟨u,rfl,h⟩;exact h
theorem lg {S:World->Prop} {a:Act} {w:World} {i f:Nat} {o:Oper} {listed:Array Bool} {fuel:Nat} {md:Region.Mode} (hr:Region.ready md ops listed=[i]) (ho:ops[i]? = some o) (hw:Region.wanted o (yielded ops a.tmps)=true) (x y:Operand) (ts:Array TypeId) (hop:o.op=.call { callee:=.value (.func f),args:=#[x,y],argTypes:=ts }) (v u1:Value) (hx0:a.eval x=v) (hx1:a.eval y=u1) (eg:∀ args w,(callFunc f args).run P w=.ok (.enter f args) w) (hc:Calls P f #[v,u1] w fun e w'=>∃ u,e=.returned u/\S w'/\wpAnyH P md ops Q S fuel (listed.setIfInBounds i true) (a.put o.dst u) w'):wpAnyH P md ops Q S (fuel+1) listed a w:=by
 refine tI hr (by simp) ?_;intro j hj;obtain rfl:j=i:=by simpa using hj
 unfold wpOp;rw[ho];refine iU hw (.inl ?_);have he:(execOp a.eval o).run P w=.ok (.enter f #[v,u1]) w:=by subst hx0 hx1;simp[execOp,hop,resolve,go_sem,invoke,eg]
 unfold Oper.wp;rw[he];refine kZ hc ?_;rintro e w' ⟨u,rfl,h⟩;exact h
theorem ve {S:World->Prop} {a:Act} {w:World} {i f:Nat} {o:Oper} {listed:Array Bool} {fuel:Nat} {md:Region.Mode} (hr:Region.ready md ops listed=[i]) (ho:ops[i]? = some o) (hw:Region.wanted o (yielded ops a.tmps)=true) (x y z:Operand) (ts:Array TypeId) (hop:o.op=.call { callee:=.value (.func f),args:=#[x,y,z],argTypes:=ts }) (v u1 u2:Value) (hx0:a.eval x=v) (hx1:a.eval y=u1) (hx2:a.eval z=u2) (eg:∀ args w,(callFunc f args).run P w=.ok (.enter f args) w) (hc:Calls P f #[v,u1,u2] w fun e w'=>∃ u,e=.returned u/\S w'/\wpAnyH P md ops Q S fuel (listed.setIfInBounds i true) (a.put o.dst u) w'):wpAnyH P md ops Q S (fuel+1) listed a w:=by
 refine tI hr (by simp) ?_;intro j hj;obtain rfl:j=i:=by simpa using hj
 unfold wpOp;rw[ho];refine iU hw (.inl ?_);have he:(execOp a.eval o).run P w=.ok (.enter f #[v,u1,u2]) w:=by subst hx0 hx1 hx2;simp[execOp,hop,resolve,go_sem,invoke,eg]
 unfold Oper.wp;rw[he];refine kZ hc ?_;rintro e w' ⟨u,rfl,h⟩;exact h
theorem vf {S:World->Prop} {a:Act} {w w':World} {u:Value} {i:Nat} {o:Oper} {listed:Array Bool} {fuel:Nat} {md:Region.Mode} (hr:Region.ready md ops listed=[i]) (ho:ops[i]? = some o) (hw:Region.wanted o (yielded ops a.tmps)=true) (he:(execOp a.eval o).run P w=.ok (.value u) w') (hS:S w') (h:wpAnyH P md ops Q S fuel (listed.setIfInBounds i true) (a.put o.dst u) w'):wpAnyH P md ops Q S (fuel+1) listed a w:=by
 refine tI hr (by simp) ?_;intro j hj;obtain rfl:j=i:=by simpa using hj
 unfold wpOp;rw[ho];refine iU hw (.inl ?_);unfold Oper.wp;rw[he];exact ⟨hS,h⟩
theorem gg {S:World->Prop} {a:Act} {w w':World} {i:Nat} {o:Oper} {listed:Array Bool} {fuel:Nat} {md:Region.Mode} (hr:Region.ready md ops listed=[i]) (ho:ops[i]? = some o) (hw:Region.wanted o (yielded ops a.tmps)=true) (he:(execOp a.eval o).run P w=.ok .skip w') (hS:S w') (h:wpAnyH P md ops Q S fuel (listed.setIfInBounds i true) (a.put o.dst undef) w'):wpAnyH P md ops Q S (fuel+1) listed a w:=by
 refine tI hr (by simp) ?_;intro j hj;obtain rfl:j=i:=by simpa using hj
 unfold wpOp;rw[ho];refine iU hw (.inl ?_);unfold Oper.wp;rw[he];exact ⟨hS,h⟩
end
theorem wV {a b:Bool} (h:a=b):Ending.returned (.bool a)=.returned (.bool b):=by rw[h]
theorem ZZ (b off n c:Nat) (es:List aB) (x:Int) (s:ByteArray) (w:World) (hn:n<=es.length) (hbig:n<=1048576) (im:b<w.heap.size) (hc:∀ j,j<es.length->ad w b (off+j*2) (aa (bl es j).1)/\ad w b (off+j*2+1) (.string (bl es j).2)):Calls prog 117 #[.slice (some ⟨b,off,none⟩) n c,.agg #[aa x,.string s]] w (aV (.bool (jD (es.take n) (x,s))) w):=by
 have h0:=Eh x s w 47;go_enter func117,ntmps117;go_wp2;go_loopw [9] (fun i w'=>∃ k:Nat,k<=n/\jD (es.take k) (x,s)=false/\i=aa k/\jN w.heap.size w x s w') (fun i _=>n-(intOf i).toNat);case atStart=>exact ⟨0,bh _,rfl,rfl,h0⟩
 case round=>
 obtain ⟨k,hk,hno,rfl,hbx⟩:=hrel;clear h0;by_cases hlt:k<n
 ·have y1:=(hbx.au.cell (p:=⟨b,off+k*2,none⟩) im).trans (hc k (by omega)).1;have y2:=(hbx.au.cell (p:=⟨b,off+k*2+1,none⟩) im).trans (hc k (by omega)).2;have hs:=OK es k (x,s) (by omega);have hin:=OL (es:=es) (e:=(x,s)) hlt hn;obtain ⟨z,ez⟩:∃ z,bl es k=z:=⟨_,rfl⟩;rw[ez] at y1 y2 hs hin;obtain ⟨u,v⟩:=z;have e1:(0:Int)<=(k:Int):=by omega
  have e2:(k:Int)<(n:Int):=by omega
  have hb2:=hbx.alloc (.cells #[aa u,.string v] 47);have d0:=hb2.c0;have d1:=hb2.c1;clear ez hc;by_cases h1:(v.toList == s.toList)=true
  ·have HR:Hid (jD (es.take n) (x,s)=true):=hin (by rw[tN,h1];rfl);clear hin hs hno;go_wp2;go_ret;exact ⟨wV HR.out.symm,hb2.au⟩
  have h1':(v.toList == s.toList)=false:=by simpa using h1
  by_cases h2:(u == x)=true
  ·have HR:Hid (jD (es.take n) (x,s)=true):=hin (by rw[tN,h1',h2];rfl);clear hin hs hno h1;go_wp2;go_ret;exact ⟨wV HR.out.symm,hb2.au⟩
  have h2':(u == x)=false:=by simpa using h2
  have HN:Hid (jD (es.take (k+1)) (x,s)=false):=by rw[hs,hno,tN,h1',h2'];rfl
  clear hin hs hno h1 h2;go_wp2;go_roundw;case rel=>exact ⟨k+1,by omega,HN.out,by go_num,hb2⟩
  case measure=>simp[intOf];omega
 obtain rfl:k=n:=by omega
 have HN:Hid (jD (es.take k) (x,s)=false):=hno;clear hno hc;go_wp2;go_ret;exact ⟨wV HN.out.symm,hbx.au⟩
theorem IT {i:Int} {s:ByteArray} {B:Nat} {w W:World} {r:Bool} (hs:s.size<=281474976710656) (hr:fm i s=r) (h:jN B w i s W):Calls prog 116 #[.agg #[aa i,.string s]] W fun e w'=>e=.returned (.bool r)/\jN B w i s w':=(IC hs h).mono fun _ _ ⟨he,hb⟩=>⟨by rw[he,hr],hb⟩
theorem Z6 {w W:World} {b off:Nat} {es:List aB} (hlt:b<w.heap.size) (hb:ah w W) (hc:∀ j,j<es.length->ad w b (off+j*2) (aa (bl es j).1)/\ad w b (off+j*2+1) (.string (bl es j).2)):∀ j,j<es.length->ad W b (off+j*2) (aa (bl es j).1)/\ad W b (off+j*2+1) (.string (bl es j).2):=fun j hj=>
 ⟨(hb.cell (p:=⟨b,off+j*2,none⟩) hlt).trans (hc j hj).1,(hb.cell (p:=⟨b,off+j*2+1,none⟩) hlt).trans (hc j hj).2⟩
theorem Z7 (b off n c:Nat) (es:List aB) (x:Int) (s:ByteArray) (w W:World) (r:Bool) (hn:n<=es.length) (hbig:n<=1048576) (im:b<w.heap.size) (hb:ah w W) (hr:jD (es.take n) (x,s)=r) (hc:∀ j,j<es.length->ad w b (off+j*2) (aa (bl es j).1)/\ad w b (off+j*2+1) (.string (bl es j).2)):Calls prog 117 #[.slice (some ⟨b,off,none⟩) n c,.agg #[aa x,.string s]] W (aV (.bool r) w):=(ZZ b off n c es x s W hn hbig (cv im hb.size) (Z6 im hb hc)).mono fun _ _ ⟨he,h2⟩=>⟨by rw[he,hr],hb.trans (h2.mono hb.size)⟩
theorem Z8 (a:Option Addr) (c:Nat) (es:List aB) (w:World) (hbig:es.length<=1048576) (hcap:es.length<=c) (hfit:pO es) (hR:cW w a es):Calls prog 68 #[.slice a es.length c] w fun e w'=>e=.returned (.bool (fZ es))/\Below w.heap.size w w':=by
 by_cases h12:12<(es.length:Int)
 ·have HR:Hid (fZ es=false):=by rw[fZ,bA (by omega:¬ es.length<=12)];rfl
  go_enter func68,ntmps68;go_wp2;go_ret;exact ⟨wV HR.out.symm,aQ _ _⟩
 have hD:fZ es=nG es es.length:=by rw[fZ,bK (by omega:es.length<=12),fJ]
 go_enter func68,ntmps68;go_wp2;go_loopw [10] (fun i w'=>∃ k:Nat,k<=es.length/\nG es k=true/\i=.int .i64 k/\Below w.heap.size w w') (fun i _=>es.length-(intOf i).toNat);case atStart=>exact ⟨0,bh _,rfl,rfl,aQ _ _⟩
 case round=>
 obtain ⟨k,hk,hok,rfl,hbel⟩:=hrel;by_cases hlt:k<es.length
 ·obtain ⟨b,off,rfl,im,hc⟩:=hR.get hlt;have y1:=(hbel.cell (p:=⟨b,off+k*2,none⟩) im).trans (hc k hlt).1;have y2:=(hbel.cell (p:=⟨b,off+k*2+1,none⟩) im).trans (hc k hlt).2;have hs:=OM es k;have hat:qM es k=(fm (bl es k).1 (bl es k).2 && !(jD (es.take k) (bl es k))):=rfl;have hf:=hfit k hlt;obtain ⟨z,ez⟩:∃ z,bl es k=z:=⟨_,rfl⟩;rw[ez] at y1 y2 hat hf;obtain ⟨u,v⟩:=z;simp only at y1 y2 hat hf;have e1:(0:Int)<=(k:Int):=by omega
  have e2:(k:Int)<(es.length:Int):=by omega
  have e3:(k:Int)<=(c:Int):=by omega
  have hb1:=Eh u v wr 47;have hbd:=hb1.drew;have hB:=hbel.size;clear ez hR hfit;by_cases hE:fm u v=true
  ·have Vn:Hid (∀ r W,jD (es.take k) (u,v)=r->Below wr.heap.size wr W->_):=fun r W hr hb=>Z7 b off k c es u v w W r (by omega) (by omega) im (hbel.trans (hb.mono hB)) hr hc;by_cases hT:jD (es.take k) (u,v)=true
   ·have HR:Hid (fZ es=false):=IE hlt (by rw[hat,hT,tG,eS]);clear hs hat hok hc hD;go_wp2;go_region_with (first
     | (go_at_call 116;refine (IT (by omega) hE hbd).mono ?_;rintro e w4 ⟨rfl,h4⟩;have x0:=h4.c0;have x1:=h4.c1)
     | (go_at_call 117;refine (Vn.out _ _ hT h4.au).mono ?_;rintro e w5 ⟨rfl,b5⟩))
    all_goals
     go_wp2;go_ret;exact ⟨wV HR.out.symm,b5⟩
   have hT':jD (es.take k) (u,v)=false:=by simpa using hT
   have HO:Hid (nG es (k+1)=true):=by rw[hs,hok,hat,hE,hT'];rfl
   clear hs hat hok hc hD hT;go_wp2;go_region_with (first
    | (go_at_call 116;refine (IT (by omega) hE hbd).mono ?_;rintro e w4 ⟨rfl,h4⟩;have x0:=h4.c0;have x1:=h4.c1)
    | (go_at_call 117;refine (Vn.out _ _ hT' h4.au).mono ?_;rintro e w5 ⟨rfl,b5⟩))
   all_goals
    go_wp2;go_roundw;case rel=>exact ⟨k+1,by omega,HO.out,by go_num,b5⟩
    case measure=>simp[intOf];omega
  have hE':fm u v=false:=by simpa using hE
  have HR:Hid (fZ es=false):=IE hlt (by rw[hat,hE'];rfl);clear hs hat hok hc hD hE;go_wp2;have hS0:(wr.alloc (.cells #[.int .i64 u,.string v] 47)).drew.cell? ⟨wr.heap.size,0,none⟩=some (.int .i64 u)/\(wr.alloc (.cells #[.int .i64 u,.string v] 47)).drew.cell? ⟨wr.heap.size,1,none⟩=some (.string v):=⟨hbd.c0,hbd.c1⟩;refine fX (S:=fun W=>W.cell? ⟨wr.heap.size,0,none⟩=some (.int .i64 u)/\W.cell? ⟨wr.heap.size,1,none⟩=some (.string v)) (by kernel_rfl) ?_;refine aS 0 (.agg #[.int .i64 u,.string v]) hS0 ?_;refine ZY (i:=1) (by kernel_rfl) rfl rfl (.tmp 15) _ rfl (.agg #[.int .i64 u,.string v]) (by rfl) (bo func116 (by kernel_rfl) rfl) ((IT (by omega) hE' hbd).mono ?_);rintro e w4 ⟨rfl,h4⟩;have uy:w4.cell? ⟨wr.heap.size,0,none⟩=some (.int .i64 u)/\w4.cell? ⟨wr.heap.size,1,none⟩=some (.string v):=⟨h4.c0,h4.c1⟩;refine ⟨_,rfl,uy,?_⟩;simp only[ar,Act.put,Nat.reduceAdd];refine aT 2 (.bool true) uy ?_;refine aT 3 (.bool true) uy ?_;refine bT 4 uy ?_;refine bT 5 uy ?_;refine bT 6 uy ?_;refine bT 7 uy ?_;refine bT 8 uy ?_;refine aT 9 (.bool true) uy ?_;refine ek (by kernel_rfl) ?_ _;all_goals
   go_wp2;go_ret;exact ⟨wV HR.out.symm,hbel.trans (h4.au.mono hB)⟩
 obtain rfl:k=es.length:=by omega
 have HR:Hid (fZ es=true):=by rw[hD,hok];rfl
 clear hok hD hR;go_wp2;go_ret;exact ⟨wV HR.out.symm,hbel⟩
theorem wW {a b:ByteArray} (h:a=b):Ending.returned (.string a)=.returned (.string b):=by rw[h]
theorem Z9 (n:Nat) (hn:n<=12):∃ C:Array Value,C.size=n*16/\∀ W:World,(Instr.makeSlice 22 (aa 0) (aa ((n:Int)*16))).run prog W=.ok (aH W.heap.size 0 (n*16)) (W.alloc (.cells C 5)):=by
 obtain ⟨i0,hi,hz0,hz1,hz2⟩:=iv Ew;refine ⟨madeCells (Value.int .u8 0).cells ((n*16)*i0.size),?_,fun W=>?_⟩
 ·have:(madeCells (Value.int .u8 0).cells ((n*16)*i0.size)).toList.length=n*16:=by
   rw[show (Value.int .u8 0).cells=#[Value.int .u8 0] from rfl,YO,hz1]
   simp
  simpa using this
 have h:=run_make (P:=prog) W 22 5 i0 (.int .u8 0) underlying22 hi hz0 .i64 .i64 0 ((n:Int)*16) (by omega) (by omega) (by rw[hz2];omega) (by omega);rw[show ((n:Int)*16).toNat=n*16 by omega] at h;exact h
theorem IU {a:Option Addr} {c:Nat} {es:List aB} {W:World} {r:Bool} (hbig:es.length<=1048576) (hcap:es.length<=c) (hfit:pO es) (hR:cW W a es) (hr:fZ es=r):Calls prog 68 #[.slice a es.length c] W (aV (.bool r) W):=(Z8 a c es W hbig hcap hfit hR).mono fun _ _ h=>⟨by rw[h.1,hr],h.2⟩
theorem aaa (a:Option Addr) (c:Nat) (es:List aB) (w:World) (hbig:es.length<=1048576) (hcap:es.length<=c) (hfit:pO es) (hR:cW w a es):Calls prog 226 #[.slice a es.length c] w (aV (.string (dS es)) w):=by
 by_cases hD:fZ es=true
 ·have HP:Hid (dS es=jE es es.length):=by rw[dS,aN hD];rfl
  have hd:=hD;simp only[fZ,ca,dp] at hd;obtain ⟨hl,hok⟩:=hd;obtain ⟨C,hC,hmk⟩:=Z9 es.length hl;have hdl:Hid (∀ W,cW W a es->Calls prog 68 #[.slice a es.length c] W (aV (.bool true) W)):=fun W h=>IU hbig hcap hfit h hD;clear hD;go_enter func226,ntmps226;go_wp2_with (go_at_call 68;refine (hdl.out _ hR).mono ?_;rintro e w1 ⟨rfl,b1⟩;have oW:=O8 (base:=w1.heap.size) w1 C (es.length*16) hC (by unfold maxLen;omega) (av _);have vT:=aA w1 (.cells C 5));go_loopw [3,15] (fun r i w'=>∃ (j g cap:Nat),j<=es.length/\i=aa j/\r=aH g (16*j) cap/\fB w1.heap.size w' g (16*j) cap (jE es j)/\ah w1 w') (fun _ i _=>es.length-(intOf i).toNat);case atStart=>exact ⟨0,_,_,bh _,rfl,rfl,oW,vT⟩
  case round=>
  obtain ⟨j,g,cap,hj,rfl,rfl,hbuf,hbel⟩:=hrel;clear oW vT hmk;have hfin:Hid (∀ W,ah w1 W->ah w W):=fun W h=>b1.trans (h.mono b1.size);by_cases hlt:j<es.length
  ·obtain ⟨b,off,rfl,im,hc⟩:=((hR.below b1).below hbel).get hlt;have y1:=(hc j hlt).1;have y2:=(hc j hlt).2;have hat:=Ej (Ek hok hlt);have hf:=hfit j hlt;have hu:jE es (j+1)=jE es j++fY (bl es j).1 (bl es j).2:=rfl;obtain ⟨z,ez⟩:∃ z,bl es j=z:=⟨_,rfl⟩;rw[ez] at y1 y2 hat hf hu;obtain ⟨u,v⟩:=z;simp only at y1 y2 hat hf hu;have hps:=Ei hat.1;have HU:Hid (jE es (j+1)=jE es j++fY u v):=hu;have e1:(0:Int)<=(j:Int):=by omega
   have e2:(j:Int)<(es.length:Int):=by omega
   have akx:=hbuf.alloc (.cells #[aa u,.string v] 47);have VD:=hbel.alloc hbel.size (.cells #[aa u,.string v] 47);clear hu ez hc hat hR hfit hdl hbuf;go_wp2_with (first
    | (go_at_call 115;refine (ID u v _ hf).mono ?_;rintro e w2 ⟨rfl,b2⟩;have uv:=akx.below b2;have me:=VD.trans (b2.mono VD.size))
    | (at_builtin;refine IQ rfl (.tmp 19) (.tmp 21) rfl uv (fY u v) (by rfl) (by rfl) (by omega) me.size ?_;intro g1 dO w3 uD pf))
   go_roundw;case rel=>
    rw[hps] at uD;exact ⟨j+1,g1,dO,by omega,by go_num,rfl,by rw[HU.out];exact uD,me.trans pf⟩
   case measure=>simp[intOf];omega
  obtain rfl:j=es.length:=by omega
  have hcv:=hbuf.conv;clear hR hfit hdl hbuf;go_wp2;go_ret;exact ⟨wW HP.out.symm,hfin.out _ hbel⟩
 have hD':fZ es=false:=by simpa using hD
 have HP:Hid (dS es=⟨#[]⟩):=by rw[dS,aM hD];rfl
 have hdl:Hid (∀ W,cW W a es->Calls prog 68 #[.slice a es.length c] W (aV (.bool false) W)):=fun W h=>IU hbig hcap hfit h hD';clear hD hD';go_enter func226,ntmps226;go_wp2_with (go_at_call 68;refine (hdl.out _ hR).mono ?_;rintro e w1 ⟨rfl,b1⟩);go_ret;exact ⟨wW HP.out.symm,b1⟩
section
theorem BB {a b:ByteArray} (h:a=b):Ending.returned (.string a)=.returned (.string b):=by rw[h]
def qN (k o s:Int) (zs:List Int) (j:Nat):ByteArray:=jr k o++iT s++iy (zs.take j)
theorem aab (k o s:Int) (zs:List Int):qN k o s zs 0=jr k o++iT s:=by apply kD;simp[qN,iy]
theorem aac (k o s:Int) (zs:List Int) (j:Nat) (h:j<zs.length):qN k o s zs j ++ ⟨#[UInt8.ofNat (zs.getD j 0).toNat]⟩=qN k o s zs (j+1):=by rw[qN,qN,amb,OV zs j h]
theorem aad (k o s:Int) (zs:List Int):qN k o s zs zs.length=sB k o s zs:=by rw[qN,nC,sB]
theorem ami {base g n cap:Nat} {W:World} {t:ByteArray} (m:Int) (h:fB base W g n cap t):Calls prog 42 #[aa m] W fun e w'=>e=.returned (.string (bG m))/\fB base w' g n cap t/\ah W w':=(wR m W).mono fun _ _ ⟨he,hb⟩=>⟨he,h.below hb,hb⟩
structure js (w:World) (W1:World) (g n cap:Nat) (t:ByteArray) (W:World):Prop where
 buf:fB W1.heap.size W g n cap t
 au:ah W1 W
variable {w W1 W W' : World} {g n cap : Nat} {t : ByteArray}
theorem js.below (h:js w W1 g n cap t W) (hb:ah W W'):js w W1 g n cap t W':=⟨h.buf.below hb,h.au.trans (hb.mono h.au.size)⟩
theorem js.drew (h:js w W1 g n cap t W):js w W1 g n cap t W.drew:=⟨h.buf.drew,h.au.drew⟩
theorem aae (m:Int) (h:js w W1 g n cap t W):Calls prog 42 #[aa m] W fun e w'=>e=.returned (.string (bG m))/\js w W1 g n cap t w':=(wR m W).mono fun _ _ ⟨he,hb⟩=>⟨he,h.below hb⟩
theorem aaf (a:ByteArray) (k:Int) (u:ByteArray) (hs:a.size<=281474976710656) (ht:u.size<=281474976710656) (h:js w W1 g n cap t W):Calls prog 41 #[.string a,aa k,.string u] W fun e w'=>e=.returned (.string (bs a k u))/\js w W1 g n cap t w':=(uY a k u W hs ht).mono fun _ _ ⟨he,hb⟩=>⟨he,h.below hb⟩
theorem IV (k o s:Int) (a:Option Addr) (c:Nat) (zs:List Int) (w:World) (hok:fe k o s zs=true) (hR:aK w a zs):Calls prog 36 #[aO k o s a zs.length c] w (aV (.string (df k o s zs)) w):=by
 obtain ⟨hk,ho,hs,hl,-,hp⟩:=zi hok;have hP2:=IL s (by omega) (by omega);have mP:=aY (fO k o s a zs.length c) w 35;have hl0:=aA w (.cells (bj k o s a zs.length c) 35);have rG:=hR.below hl0;have oW:=O7 (base:=(w.alloc (.cells (bj k o s a zs.length c) 35)).heap.size) (w.alloc (.cells (bj k o s a zs.length c) 35)) k o (by omega) (by omega) (av _);have oW:=oW.at (g':=w.heap.size+1) (by simp);have GH:=aA (w.alloc (.cells (bj k o s a zs.length c) 35)) (.cells #[.int .u8 k,.int .u8 o] 5);have akb:=mP.below GH;have HT:Hid (df k o s zs=bs (bG 16) 0 (sB k o s zs)):=by
  have hz:=IM k o s zs (by omega) (by omega);rw[df,aN hok,bG,aN (by decide),show ((16:Int)).toNat=16 from rfl,OF _ 16 (by omega),hz,show 16-(4+zs.length)=12-zs.length by omega]
  rfl
 have Ml:(sB k o s zs).size<=281474976710656:=by rw[IM k o s zs (by omega) (by omega)];omega
 have AX:(bG 16).size<=281474976710656:=by decide
 clear hR hok;have hs0:0<=s:=hs.1;have hk0:0<=k:=hk.1;have hk1:k<=2:=hk.2;have ho0:0<=o:=ho.1;have ho1:o<=9:=ho.2;go_enter func36,ntmps36;go_wp2_with (first
  | (go_at_call 91;refine (ZB _ _).mono ?_;rintro e w2 ⟨rfl,b2⟩;have uv:=oW.below b2;have me:=GH.trans (b2.mono GH.size);have Yu:=mP.below me;have c3:=Yu.c3)
  | (at_builtin;refine IQ rfl (.tmp 13) (.tmp 16) rfl uv (iT s) (by rfl) (by rfl) (by omega) me.size ?_;intro g3 GV w3 uD VV;have pf:=me.trans VV;have Vj:=mP.below pf;have d3:=Vj.c3))
 go_loopw [3,21] (fun r i w'=>∃ (j g cap:Nat),j<=zs.length/\i=aa j/\r=aH g (4+j) cap/\fB (w.alloc (.cells (bj k o s a zs.length c) 35)).heap.size w' g (4+j) cap (qN k o s zs j)/\ah (w.alloc (.cells (bj k o s a zs.length c) 35)) w') (fun _ i _=>zs.length-(intOf i).toNat);case atStart=>
  rw[hP2] at uD;exact ⟨0,g3,GV,bh _,rfl,rfl,by rw[aab];exact uD,pf⟩
 case round=>
 obtain ⟨j,g,cap,hj,rfl,rfl,hbuf,hbel⟩:=hrel;clear oW GH akb uv me Yu c3 uD pf VV Vj d3 b2;by_cases hlt:j<zs.length
 ·obtain ⟨b,off,rfl,hb,hc⟩:=(rG.below hbel).get hlt;have x1:=hc j hlt;have hz:=By hp hlt;have hu:=aac k o s zs j hlt;obtain ⟨z,ez⟩:∃ z,zs.getD j 0=z:=⟨_,rfl⟩;rw[ez] at x1 hz hu;have z0:0<=z:=by omega
  have z1:z<=23:=hz.2;have e1:(0:Int)<=(j:Int):=by omega
  have e2:(j:Int)<(zs.length:Int):=by omega
  have HU:Hid (qN k o s zs j ++ ⟨#[UInt8.ofNat z.toNat]⟩=qN k o s zs (j+1)):=hu;clear hu ez hc hz;go_wp2_with (at_builtin;refine Pa rfl (.tmp 25) (.tmp 28) rfl hbuf z (by omega) (by rfl) (by rfl) (by omega) hbel.size ?_;intro g1 dO w1 oX mf);go_roundw;case rel=>exact ⟨j+1,g1,dO,by omega,by go_num,rfl,by rw[<- HU.out];exact oX,hbel.trans mf⟩
  case measure=>simp[intOf];omega
 obtain rfl:j=zs.length:=by omega
 rw[aad] at hbuf;have st:js w (w.alloc (.cells (bj k o s a zs.length c) 35)) g (4+zs.length) cap (sB k o s zs) wr:=⟨hbuf,hbel⟩;have hfin:Hid (∀ W,js w (w.alloc (.cells (bj k o s a zs.length c) 35)) g (4+zs.length) cap (sB k o s zs) W->ah w W):=fun W h=>hl0.trans (h.au.mono hl0.size);clear rG hbuf hbel mP hl0;go_wp2;have st1:=st.drew;have cv0:=st.buf.conv;have cv1:=st1.buf.conv;go_region_with (first
  | (go_at_call 42;refine (aae _ (by assumption)).mono ?_;rintro e w4 ⟨rfl,h4⟩;have cv4:=h4.buf.conv)
  | (go_at_call 41;refine (aaf _ _ _ AX Ml (by assumption)).mono ?_;rintro e w5 ⟨rfl,h5⟩))
 all_goals
  go_wp2;go_ret;exact ⟨BB HT.out.symm,hfin.out _ h5⟩
theorem Pd (k o s:Int) (a:Option Addr) (c:Nat) (zs:List Int) (w:World) (hbig:zs.length<=281474976710656) (hcap:zs.length<=c) (hR:aK w a zs):Calls prog 168 #[aO k o s a zs.length c] w (aV (.string (df k o s zs)) w):=by
 have mP:=aY (fO k o s a zs.length c) w 35;have hl0:=aA w (.cells (bj k o s a zs.length c) 35);have hR0:=hR.below hl0;clear hR;by_cases hok:fe k o s zs=true
 ·go_enter func168,ntmps168;go_wp2_with (first
   | (go_at_call 227;refine (O5 k o s a c zs _ hbig hcap hR0).mono ?_;rintro e w1 ⟨rfl,b1⟩;have qy:=mP.below b1;have c0:=qy.c0;have c1:=qy.c1;have c2:=qy.c2;have c3:=qy.c3;have rG:=hR0.below b1;have l1:=hl0.trans (b1.mono hl0.size))
   | (go_at_call 36;refine (IV k o s a c zs _ hok rG).mono ?_;rintro e w2 ⟨rfl,b2⟩;have l2:=l1.trans (b2.mono l1.size)))
  go_ret;exact ⟨rfl,l2⟩
 have hok':fe k o s zs=false:=by simpa using hok
 have HR:Hid (df k o s zs=⟨#[]⟩):=by rw[df,aM hok];rfl
 go_enter func168,ntmps168;go_wp2_with (go_at_call 227;refine (O5 k o s a c zs _ hbig hcap hR0).mono ?_;rintro e w1 ⟨rfl,b1⟩;have l1:=hl0.trans (b1.mono hl0.size));go_ret;exact ⟨BB HR.out.symm,l1⟩
end
theorem aag (s:ByteArray) (w:World) (h16:s.size=16):Calls prog 33 #[.string s,aa (dL (cu s 2))] w fun e w'=>∃ a c,e=.returned (.slice a (cH s (bY s)).length c)/\bH w.heap.size w' a (cH s (bY s)).length c (cH s (bY s))/\ah w w':=by
 rw[uZ];have hm:s.size<=maxLen:=by unfold maxLen;omega
 have hz:(s.size:Int)=16:=by omega
 have b0:=lP w (av _);have l0:=aA w (.cells #[] 3);have hcl:=va s;have hct:=OX s;obtain ⟨N,hN⟩:∃ N,dL (cu s 2)=N:=⟨_,rfl⟩;rw[hN] at hct ⊢;obtain ⟨C,hC⟩:∃ C,bY s=C:=⟨_,rfl⟩;rw[hC] at hct hcl ⊢;clear hN hC;go_enter func33,ntmps33;go_wp2;go_loopw [5,6] (fun v i w'=>∃ (k c:Nat) (a:Option Addr),k<=C/\i=aa (4+(k:Int))/\v=.slice a k c/\bH w.heap.size w' a k c (cH s k)/\ah w w') (fun _ i _=>16-(intOf i).toNat);case atStart=>exact ⟨0,0,_,bh _,rfl,rfl,b0,l0⟩
 case round=>
 obtain ⟨k,c,a,hk,rfl,rfl,hbuf,hbel⟩:=hrel;clear b0 l0;by_cases hlt:k<C
 ·obtain ⟨h1,h2⟩:=(hct k).1 hlt;have e1:4+(k:Int)<16:=by omega
  have HS:Hid (cH s k ++ [aW s (4+(k:Int))]=cH s (k+1)):=OW s k;go_wp2_with (first
   | (go_at_call 32;refine (zd _ _ _ hm).mono ?_;rintro e w' ⟨rfl,rfl⟩)
   | (at_builtin;refine BA rfl (.tmp 20) (.tmp 24) rfl hbuf _ (by rfl) (by rfl) (by omega) hbel.size ?_;intro g1 dO w1 oX mf))
  go_roundw;case rel=>exact ⟨k+1,dO,_,by omega,by go_num,rfl,by rw[<- HS.out];exact oX,hbel.trans mf⟩
  case measure=>simp[intOf];omega
 obtain rfl:k=C:=by omega
 by_cases h12:k<12
 ·have e1:4+(k:Int)<16:=by omega
  have e2:¬ (k:Int)<N:=fun h=>hlt ((hct k).2 ⟨h,h12⟩);have e3:decide ((k:Int)<N)=false:=by simpa using e2
  go_wp2;go_ret;exact ⟨a,c,rfl,hbuf,hbel⟩
 have e1:¬ 4+(k:Int)<16:=by omega
 have e3:decide (4+(k:Int)<16)=false:=by simpa using e1
 go_wp2;go_ret;exact ⟨a,c,rfl,hbuf,hbel⟩
theorem aah (v:Value) (w:World):(Instr.typeAssert (.iface 86 v) 56 86 true).run prog w=.ok (.tuple #[v,.bool true]) w:=by kernel_rfl
theorem aai (v:Value) (w:World):(Instr.typeAssert (.iface 88 v) 56 86 true).run prog w=.ok (.tuple #[aO 0 0 0 none 0 0,.bool false]) w:=by kernel_rfl
theorem aaj (v:Value) (w:World):(Instr.typeAssert (.iface 90 v) 56 86 true).run prog w=.ok (.tuple #[aO 0 0 0 none 0 0,.bool false]) w:=by kernel_rfl
theorem aak (v:Value) (w:World):(Instr.typeAssert (.iface 88 v) 56 88 true).run prog w=.ok (.tuple #[v,.bool true]) w:=by kernel_rfl
theorem aal (v:Value) (w:World):(Instr.typeAssert (.iface 90 v) 56 88 true).run prog w=.ok (.tuple #[aO 0 0 0 none 0 0,.bool false]) w:=by kernel_rfl
theorem aam (v:Value) (w:World):(Instr.typeAssert (.iface 90 v) 56 90 false).run prog w=.ok v w:=by kernel_rfl
theorem Pe (v:Value) (k o s:Int) (a:Option Addr) (n c:Nat) (hv:v=aO k o s a n c) (w:World):Calls prog 18 #[.iface 86 v] w (aV (.bool true) w):=by have ha:=aah;subst hv;go_enter func18,ntmps18;go_wp2;go_ret;exact ⟨rfl,aA _ _⟩
theorem Pf (v:Value) (k o s:Int) (a:Option Addr) (n c:Nat) (hv:v=aO k o s a n c) (w:World):Calls prog 18 #[.iface 88 v] w (aV (.bool false) w):=by have ha:=aai;subst hv;go_enter func18,ntmps18;go_wp2;go_ret;exact ⟨rfl,aA _ _⟩
theorem Pg (v:Value) (k o s:Int) (a:Option Addr) (n c:Nat) (hv:v=aO k o s a n c) (w:World):Calls prog 18 #[.iface 90 v] w (aV (.bool false) w):=by have ha:=aaj;subst hv;go_enter func18,ntmps18;go_wp2;go_ret;exact ⟨rfl,aA _ _⟩
theorem aan (k o s:Int) (a:Option Addr) (n c:Nat) (w:World):Calls prog 19 #[.iface 86 (aO k o s a n c)] w (aV (aO 0 0 0 none 0 0) w):=by have n0:=aY (fO 0 0 0 none 0 0) w 35;have l0:=aA w (.cells (bj 0 0 0 none 0 0) 35);go_enter func19,ntmps19;go_wp2_with (go_at_call 18;refine (Pe _ k o s a n c rfl _).mono ?_;rintro e w1 ⟨rfl,b1⟩;have n1:=n0.below b1;have l1:=l0.trans (b1.mono l0.size);have c0:=n1.c0;have c1:=n1.c1;have c2:=n1.c2;have c3:=n1.c3;have f0:=n1.f0;have f1:=n1.f1;have f2:=n1.f2;have f3:=n1.f3);have q:=n1.dQ (aa 0) (aa 0) (aa 0) (.slice none 0 0);refine bF (v:=aO 0 0 0 none 0 0) (by simp[results,results19,go_sem,q.c0,q.c1,q.c2,q.c3]) rfl ⟨rfl,?_⟩;exact (((l1.setCell (p:=⟨w.heap.size,0,none⟩) (av _) _).setCell (p:=⟨w.heap.size,1,none⟩) (av _) _).setCell (p:=⟨w.heap.size,2,none⟩) (av _) _).setCell (p:=⟨w.heap.size,3,none⟩) (av _) _
theorem Ph (k o s:Int) (a:Option Addr) (n c:Nat) (w:World):Calls prog 19 #[.iface 88 (aO k o s a n c)] w (aV (aO k o s a n c) w):=by have ha:=aak;have n0:=aY (fO 0 0 0 none 0 0) w 35;have l0:=aA w (.cells (bj 0 0 0 none 0 0) 35);go_enter func19,ntmps19;go_wp2_with (go_at_call 18;refine (Pf _ k o s a n c rfl _).mono ?_;rintro e w1 ⟨rfl,b1⟩;have n1:=(n0.below b1).alloc (.cells (bj k o s a n c) 88);have l1:=(l0.trans (b1.mono l0.size)).alloc (br l0.size b1.size) (.cells (bj k o s a n c) 88);have c0:=n1.c0;have c1:=n1.c1;have c2:=n1.c2;have c3:=n1.c3;have f0:=n1.f0;have f1:=n1.f1;have f2:=n1.f2;have f3:=n1.f3);have q:=n1.dQ (aa k) (aa o) (aa s) (.slice a n c);refine bF (v:=aO k o s a n c) (by simp[results,results19,go_sem,q.c0,q.c1,q.c2,q.c3]) rfl ⟨rfl,?_⟩;exact (((l1.setCell (p:=⟨w.heap.size,0,none⟩) (av _) _).setCell (p:=⟨w.heap.size,1,none⟩) (av _) _).setCell (p:=⟨w.heap.size,2,none⟩) (av _) _).setCell (p:=⟨w.heap.size,3,none⟩) (av _) _
theorem Pj (k o s:Int) (a:Option Addr) (n c:Nat) (w:World):Calls prog 19 #[.iface 90 (aO k o s a n c)] w (aV (aO k o s a n c) w):=by have ha:=aal;have hb:=aam;have n0:=aY (fO 0 0 0 none 0 0) w 35;have l0:=aA w (.cells (bj 0 0 0 none 0 0) 35);go_enter func19,ntmps19;go_wp2_with (go_at_call 18;refine (Pg _ k o s a n c rfl _).mono ?_;rintro e w1 ⟨rfl,b1⟩;have n1:=(n0.below b1).alloc (.cells (bj 0 0 0 none 0 0) 88);have l1:=(l0.trans (b1.mono l0.size)).alloc (br l0.size b1.size) (.cells (bj 0 0 0 none 0 0) 88);have c0:=n1.c0;have c1:=n1.c1;have c2:=n1.c2;have c3:=n1.c3;have f0:=n1.f0;have f1:=n1.f1;have f2:=n1.f2;have f3:=n1.f3);have q:=n1.dQ (aa k) (aa o) (aa s) (.slice a n c);refine bF (v:=aO k o s a n c) (by simp[results,results19,go_sem,q.c0,q.c1,q.c2,q.c3]) rfl ⟨rfl,?_⟩;exact (((l1.setCell (p:=⟨w.heap.size,0,none⟩) (av _) _).setCell (p:=⟨w.heap.size,1,none⟩) (av _) _).setCell (p:=⟨w.heap.size,2,none⟩) (av _) _).setCell (p:=⟨w.heap.size,3,none⟩) (av _) _
end Go.Proofs.YtgpfmgaidbjcpaaGreatDoor
