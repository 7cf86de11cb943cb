/- Joined texts. -/
import Derived.Test.YtidmmopnkjbjoaaGreatDoorJpB
set_option linter.unusedVariables false
set_option linter.unusedSimpArgs false
set_option maxRecDepth 10000
set_option maxHeartbeats 16000000
namespace Go.Proofs.YtidmmopnkjbjoaaGreatDoor
open ChangeShapes WideShapes ChangeAt RowKit
open Go.Proofs.Tryz
theorem bQ {a b:Bool} (h:a=b):Ending.returned (.bool a)=.returned (.bool b):=by rw[h]
theorem Ii (b off n c:Nat) (zs:List Int) (x:Int) (w:World) (hz:n<=zs.length) (hbig:n<=281474976710656) (hc:∀ j,j<zs.length->af w b (off+j) (ad (zs.getD j 0))):Calls prog 70 #[.slice (some ⟨b,off,none⟩) n c,ad x] w (dp (.bool (bN (zs.take n) x)) w):=by
 go_enter func70,ntmps70;go_wp2;go_loop [5] (fun i=>∃ k:Nat,k<=n/\bN (zs.take k) x=false/\i=ad k) (fun i=>n-(intOf i).toNat)
 case atStart=>exact ⟨0,aS _,rfl,rfl⟩
 case round=>
 obtain ⟨k,hk,hno,rfl⟩:=hrel;by_cases hlt:k<n
 ·have x1:=hc k (by omega);have hs:=XI zs k x (by omega);have hin:=fun h:x=zs.getD k 0=>h ▸ Ih (zs:=zs) hlt hz;obtain ⟨z,ez⟩:∃ z,zs.getD k 0=z:=⟨_,rfl⟩;rw[ez] at x1 hs hin;have e1:(0:Int)<=(k:Int):=by omega
  have e2:(k:Int)<(n:Int):=by omega
  by_cases h:z=x
  ·have h':(z == x)=true:=by simpa using h
   have HR:Hid (bN (zs.take n) x=true):=hin h.symm;clear h hs hin hno ez hc;go_wp2;go_ret;exact ⟨bQ HR.out.symm,rfl⟩
  have h':(z == x)=false:=by simpa using h
  have HN:Hid (bN (zs.take (k+1)) x=false):=by rw[hs,hno,show (x == z)=false by simpa using fun q:x=z=>h q.symm];rfl
  clear h hs hin hno ez hc;go_wp2;go_round;case rel=>exact ⟨k+1,by omega,HN.out,by go_num⟩
  case measure=>simp[intOf];omega
 obtain rfl:k=n:=by omega
 have HN:Hid (bN (zs.take k) x=false):=hno;clear hno hc;go_wp2;go_ret;exact ⟨bQ HN.out.symm,rfl⟩
theorem dD {P:Program} {f:FuncId} {args:Array Value} {w:World} {n:Nat} {a b:Bool} (h:Calls P f args (w.drewN n) fun e w'=>e=.returned (.bool a)/\w'=w.drewN n) (hab:a=b):Calls P f args (w.drewN n) fun e w''=>e=.returned (.bool b)/\∃ m,w''=w.drewN m:=hab ▸ mB h
theorem Ij (a:Option Addr) (c:Nat) (zs:List Int) (w:World) (hbig:zs.length<=281474976710656) (hcap:zs.length<=c) (hR:aI w a zs):Calls prog 79 #[.slice a zs.length c] w fun e w'=>e=.returned (.bool (dW zs))/\∃ n,w'=w.drewN n:=by
 go_enter func79,ntmps79;go_wp2;go_loopw [3] (fun i w'=>∃ k n:Nat,k<=zs.length/\so zs k=true/\i=ad k/\w'=w.drewN n) (fun i _=>zs.length-(intOf i).toNat);case atStart=>exact ⟨0,0,aS _,rfl,rfl,rfl⟩
 case round=>
 obtain ⟨k,n,hk,hok,rfl,hW⟩:=hrel;have HW:Hid (∀ m,∃ m',wr.drewN m=w.drewN m'):=fun m=>⟨n+m,by rw[hW,tp]⟩;by_cases hlt:k<zs.length
 ·have hR':aI wr a zs:=by rw[hW];exact hR.drewN n
  obtain ⟨b,off,rfl,hb,hc⟩:=hR'.get hlt;have hH:Hid (∀ m x,Calls prog 70 #[.slice (some ⟨b,off,none⟩) k c,ad x] (wr.drewN m) fun e w'=>e=.returned (.bool (bN (zs.take k) x))/\w'=wr.drewN m):=fun m x=>Ii b off k c zs x _ (by omega) (by omega) hc;have x1:=hc k hlt;have hs:=NX zs k;have hat:pM zs k=(aW (zs.getD k 0) 5 23 && !(bN (zs.take k) (zs.getD k 0))):=rfl;obtain ⟨z,ez⟩:∃ z,zs.getD k 0=z:=⟨_,rfl⟩;rw[ez] at x1 hat;have e1:(0:Int)<=(k:Int):=by omega
  have e2:(k:Int)<(zs.length:Int):=by omega
  have e3:(k:Int)<=(c:Int):=by omega
  by_cases h1:aW z 5 23=true
  ·by_cases h2:bN (zs.take k) z=true
   ·have HR:Hid (dW zs=false):=yU hlt (by rw[hat,h1,h2];rfl);clear hs hat hok ez hc hR hR' hW;go_wp2;go_quiet ((first | (go_at_call 26;exact dD (cH _ _ _ _) h1) | (go_at_call 70;exact dD (hH.out _ _) h2)));go_wp2;go_ret;exact ⟨bQ HR.out.symm,HW.out _⟩
   have h2':bN (zs.take k) z=false:=by simpa using h2
   have HO:Hid (so zs (k+1)=true):=by rw[hs,hok,hat,h1,h2'];rfl
   clear hs hat hok ez hc hR hR' hW h2;go_wp2;go_quiet ((first | (go_at_call 26;exact dD (cH _ _ _ _) h1) | (go_at_call 70;exact dD (hH.out _ _) h2')));go_wp2;obtain ⟨m',hm'⟩:=HW.out nq;go_roundw;case rel=>exact ⟨k+1,m',by omega,HO.out,by go_num,hm'⟩
   case measure=>simp[intOf];omega
  have h1':aW z 5 23=false:=by simpa using h1
  have HR:Hid (dW zs=false):=yU hlt (by rw[hat,h1'];rfl);clear hs hat hok ez hc hR hR' hW h1;go_wp2;go_quiet ((go_at_call 26;exact dD (cH _ _ _ _) h1'));go_wp2;go_ret;exact ⟨bQ HR.out.symm,HW.out _⟩
 obtain rfl:k=zs.length:=by omega
 have HR:Hid (dW zs=true):=hok;have HW0:Hid (wr=w.drewN n):=hW;clear hok hR hW;go_wp2;go_ret;exact ⟨bQ HR.out.symm,n,HW0.out⟩
theorem NY (b off n c:Nat) (zs:List Int) (x:Int) (w:World) (hz:n<=zs.length) (hbig:n<=281474976710656) (hc:∀ j,j<zs.length->af w b (off+j) (ad (zs.getD j 0))):Calls prog 131 #[.slice (some ⟨b,off,none⟩) n c,ad x] w (dp (.bool (bN (zs.take n) x)) w):=Tryz.slices_Contains_int b off n c zs x w hz (by omega) hc
theorem NZ (a:Option Addr) (c:Nat) (zs:List Int) (w:World) (hbig:zs.length<=281474976710656) (hcap:zs.length<=c) (hR:aI w a zs):Calls prog 220 #[.slice a zs.length c] w (dp (.bool (dW zs)) w):=by
 go_enter func220,ntmps220;go_wp2;go_loop [7] (fun i=>∃ k:Nat,k<=zs.length/\so zs k=true/\i=ad k) (fun i=>zs.length-(intOf i).toNat)
 case atStart=>exact ⟨0,aS _,rfl,rfl⟩
 case round=>
 obtain ⟨k,hk,hok,rfl⟩:=hrel;by_cases hlt:k<zs.length
 ·obtain ⟨b,off,rfl,hb,hc⟩:=hR.get hlt;have hH:Hid (∀ x,Calls prog 131 #[.slice (some ⟨b,off,none⟩) k c,ad x] w (dp (.bool (bN (zs.take k) x)) w)):=fun x=>NY b off k c zs x _ (by omega) (by omega) hc;have x1:=hc k hlt;have hs:=NX zs k;have hat:pM zs k=(aW (zs.getD k 0) 5 23 && !(bN (zs.take k) (zs.getD k 0))):=rfl;obtain ⟨z,ez⟩:∃ z,zs.getD k 0=z:=⟨_,rfl⟩;rw[ez] at x1 hat;have e1:(0:Int)<=(k:Int):=by omega
  have e2:(k:Int)<(zs.length:Int):=by omega
  have e3:(k:Int)<=(c:Int):=by omega
  by_cases g1:z<5
  ·have HR:Hid (dW zs=false):=yU hlt (by rw[hat,show aW z 5 23=false from bq (by omega)];rfl)
   clear hs hat hok ez hc hR;go_wp2;go_ret;exact ⟨bQ HR.out.symm,rfl⟩
  by_cases g2:24<=z
  ·have HR:Hid (dW zs=false):=yU hlt (by rw[hat,show aW z 5 23=false from bq (by omega)];rfl)
   clear hs hat hok ez hc hR;go_wp2;go_ret;exact ⟨bQ HR.out.symm,rfl⟩
  have h1:aW z 5 23=true:=bF (by omega);by_cases h2:bN (zs.take k) z=true
  ·have HR:Hid (dW zs=false):=yU hlt (by rw[hat,h1,h2];rfl);clear hs hat hok ez hc hR;go_wp2_with (go_at_call 131;refine (hH.out _).mono ?_;rintro e w' ⟨rfl,rfl⟩);go_ret;exact ⟨bQ HR.out.symm,rfl⟩
  have h2':bN (zs.take k) z=false:=by simpa using h2
  have HO:Hid (so zs (k+1)=true):=by rw[hs,hok,hat,h1,h2'];rfl
  clear hs hat hok ez hc hR h2;go_wp2_with (go_at_call 131;refine (hH.out _).mono ?_;rintro e w' ⟨rfl,rfl⟩);go_round;case rel=>exact ⟨k+1,by omega,HO.out,by go_num⟩
  case measure=>simp[intOf];omega
 obtain rfl:k=zs.length:=by omega
 have HR:Hid (dW zs=true):=hok;clear hok hR;go_wp2;go_ret;exact ⟨bQ HR.out.symm,rfl⟩
theorem Ik (s:Int) (w:World) (h0:0<=s) (h1:s<=65535):Calls prog 177 #[ad s] w (dp (ad (fC s)) w):=by
 have e:fC s=(s+32-1) / 32:=by unfold fC;omega
 rw[e];go_enter func177,ntmps177;go_wp2;go_ret;exact ⟨rfl,rfl⟩
theorem Bp (s:Int) (w:World) (h0:0<=s) (h1:s<=65535):Calls prog 229 #[ad s] w (dp (ad (fC s)) w):=by
 have e:fC s=(s+32-1) / 32:=by unfold fC;omega
 rw[e];go_enter func229,ntmps229;go_wp2;go_ret;exact ⟨rfl,rfl⟩
def fm (o s:Int) (zs:List Int):Bool:=aW o 0 9 && (aW s 0 192 && (decide ((zs.length:Int)=fC s) && dW zs))
def iL (o s:Int) (zs:List Int):Bool:=decide (o=0) && (decide (s=0) && decide (zs.length=0))
def eH (k o s:Int) (zs:List Int):Bool:=if k=0 then iL o s zs else if k=1 then fm o s zs else if k=2 then fm o s zs && decide (s % 16=0) else false
abbrev bO (k o s:Int) (a:Option Addr) (n c:Nat):Value:=.agg #[.int .i64 k,.int .i64 o,.int .i64 s,.slice a n c]
abbrev eV (k o s:Int) (a:Option Addr) (n c:Nat):List Value:=[.int .i64 k,.int .i64 o,.int .i64 s,.slice a n c]
theorem Oa (o:Int) (w:World):Calls prog 219 #[ad o] w (dp (.bool (aW o 0 8)) w):=by
 by_cases h1:0<=o
 ·by_cases h2:o<=8
  ·have HR:Hid (aW o 0 8=true):=bF (by omega);go_enter func219,ntmps219;go_wp2;go_ret;exact ⟨bQ HR.out.symm,rfl⟩
  have h2':decide (o<=8)=false:=by simpa using h2
  have HR:Hid (aW o 0 8=false):=bq (by omega);go_enter func219,ntmps219;go_wp2;go_ret;exact ⟨bQ HR.out.symm,rfl⟩
 have HR:Hid (aW o 0 8=false):=bq (by omega);have h1':decide (0<=o)=false:=by simpa using h1
 go_enter func219,ntmps219;go_wp2;go_ret;exact ⟨bQ HR.out.symm,rfl⟩
theorem Il (o:Int) (w:World):Calls prog 283 #[ad o] w (dp (.bool (aW o 0 9)) w):=by
 have HC:=Oa o w;cases hc:aW o 0 8 with
 | true=>
  rw[hc] at HC;have HR:Hid (aW o 0 9=true):=bF (by have:=of_decide_eq_true hc;omega);go_enter func283,ntmps283;go_wp2_with (go_at_call 219;refine HC.mono ?_;rintro e w1 ⟨rfl,rfl⟩);go_ret;exact ⟨bQ HR.out.symm,rfl⟩
 | false=>
  rw[hc] at HC;have hn:=WK hc;by_cases h3:o=9
  ·have HR:Hid (aW o 0 9=true):=bF (by omega);have h3':(o == 9)=true:=by simpa using h3
   clear h3 hn;go_enter func283,ntmps283;go_wp2_with (go_at_call 219;refine HC.mono ?_;rintro e w1 ⟨rfl,rfl⟩);go_ret;exact ⟨bQ HR.out.symm,rfl⟩
  ·have HR:Hid (aW o 0 9=false):=bq (by omega);have h3':(o == 9)=false:=by simpa using h3
   clear h3 hn;go_enter func283,ntmps283;go_wp2_with (go_at_call 219;refine HC.mono ?_;rintro e w1 ⟨rfl,rfl⟩);go_ret;exact ⟨bQ HR.out.symm,rfl⟩
theorem sq (w:World) (o:Obj) (n:Nat):aj w ((w.alloc o).drewN n):=cL (aB w o) n
theorem Eh (k o s:Int) (a:Option Addr) (c:Nat) (zs:List Int) (w:World) (hbig:zs.length<=281474976710656) (hcap:zs.length<=c) (hR:aI w a zs):Calls prog 282 #[bO k o s a zs.length c] w (aT (.bool (fm o s zs)) w):=by
 have hB:=aB w (.cells (bj k o s a zs.length c) 117);have hR':=hR.alloc (.cells (bj k o s a zs.length c) 117);have hP:Hid (∀ m,Calls prog 220 #[.slice a zs.length c] ((w.alloc (.cells (bj k o s a zs.length c) 117)).drewN m) fun e w'=>e=.returned (.bool (dW zs))/\w'=(w.alloc (.cells (bj k o s a zs.length c) 117)).drewN m):=fun m=>NZ a c zs _ hbig hcap hR';by_cases h1:s<0
 ·have HR:Hid (fm o s zs=false):=by rw[fm,show aW s 0 192=false from bq (by omega),dH,dU];rfl
  go_enter func282,ntmps282;go_wp2;go_ret;exact ⟨bQ HR.out.symm,hB⟩
 by_cases h2:192<s
 ·have HR:Hid (fm o s zs=false):=by rw[fm,show aW s 0 192=false from bq (by omega),dH,dU];rfl
  go_enter func282,ntmps282;go_wp2;go_ret;exact ⟨bQ HR.out.symm,hB⟩
 have HS:Hid (fm o s zs=(aW o 0 9 && (decide ((zs.length:Int)=fC s) && dW zs))):=by rw[fm,show aW s 0 192=true from bF (by omega),fe];rfl
 clear hB;by_cases g1:aW o 0 9=true
 ·by_cases g2:(zs.length:Int)=fC s
  ·have g2':((zs.length:Int) == fC s)=true:=by simpa using g2
   have HR:Hid (fm o s zs=dW zs):=by rw[HS.out,g1,bF g2];rfl
   clear g2 hR hR';go_enter func282,ntmps282;go_wp2;go_quiet ((first | (go_at_call 283;exact dD (Il _ _) g1) | (go_at_call 229;exact mB (Bp _ _ (by omega) (by omega))) | (go_at_call 220;exact mB (hP.out _))));go_wp2;go_ret;exact ⟨bQ HR.out.symm,sq _ _ _⟩
  have g2':((zs.length:Int) == fC s)=false:=by simpa using g2
  have HR:Hid (fm o s zs=false):=by rw[HS.out,bq g2,dH,dU];rfl
  clear g2 hR hR';go_enter func282,ntmps282;go_wp2;go_quiet ((first | (go_at_call 283;exact dD (Il _ _) g1) | (go_at_call 229;exact mB (Bp _ _ (by omega) (by omega)))));go_wp2;go_ret;exact ⟨bQ HR.out.symm,sq _ _ _⟩
 have g1':aW o 0 9=false:=by simpa using g1
 have HR:Hid (fm o s zs=false):=by rw[HS.out,g1',dH];rfl
 clear hR hR';go_enter func282,ntmps282;go_wp2;go_quiet ((go_at_call 283;exact dD (Il _ _) g1'));go_wp2;go_ret;exact ⟨bQ HR.out.symm,sq _ _ _⟩
theorem XJ (k o s:Int) (a:Option Addr) (c n:Nat) (zs:List Int) (w:World) (hn:n=zs.length):Calls prog 297 #[bO k o s a n c] w (aT (.bool (iL o s zs)) w):=by
 have hB:=aB w (.cells (bj k o s a n c) 292);by_cases h1:o=0
 ·subst h1;by_cases h2:s=0
  ·subst h2;by_cases h3:n=0
   ·have HR:Hid (iL 0 0 zs=true):=by rw[iL,<- hn,h3];rfl
    subst h3;clear hn;go_enter func297,ntmps297;go_wp2;go_ret;exact ⟨bQ HR.out.symm,hB⟩
   have HR:Hid (iL 0 0 zs=false):=by rw[iL,<- hn,bq h3];rfl
   have h3':((n:Int) == 0)=false:=by simp;omega
   clear hn;go_enter func297,ntmps297;go_wp2;go_ret;exact ⟨bQ HR.out.symm,hB⟩
  have HR:Hid (iL 0 s zs=false):=by rw[iL,bq h2,dH,dU];rfl
  have h2':(s == 0)=false:=by simpa using h2
  clear hn;go_enter func297,ntmps297;go_wp2;go_ret;exact ⟨bQ HR.out.symm,hB⟩
 have HR:Hid (iL o s zs=false):=by rw[iL,bq h1,dH];rfl
 have h1':(o == 0)=false:=by simpa using h1
 clear hn;go_enter func297,ntmps297;go_wp2;go_ret;exact ⟨bQ HR.out.symm,hB⟩
theorem XK (k o s:Int) (a:Option Addr) (c:Nat) (zs:List Int) (w:World) (hbig:zs.length<=281474976710656) (hcap:zs.length<=c) (hR:aI w a zs):Calls prog 281 #[bO k o s a zs.length c] w (aT (.bool (fm o s zs)) w):=by have hB:=aB w (.cells (bj k o s a zs.length c) 265);have hR':=hR.alloc (.cells (bj k o s a zs.length c) 265);go_enter func281,ntmps281;go_wp2_with (go_at_call 282;refine (Eh k o s a c zs _ hbig hcap hR').mono ?_;rintro e w' ⟨rfl,hb⟩);go_ret;exact ⟨rfl,hB.trans (hb.mono hB.size)⟩
theorem XL (k o s:Int) (a:Option Addr) (c:Nat) (zs:List Int) (w:World) (hbig:zs.length<=281474976710656) (hcap:zs.length<=c) (hR:aI w a zs):Calls prog 284 #[bO k o s a zs.length c] w (aT (.bool (fm o s zs && decide (s % 16=0))) w):=by
 have hB:=aB w (.cells (bj k o s a zs.length c) 267);have hR':=hR.alloc (.cells (bj k o s a zs.length c) 267);have hK:=bu (eV k o s a zs.length c) w 267;by_cases hh:fm o s zs=true
 ·have hs:=hh;simp only[fm,cj] at hs;obtain ⟨hs1,hs2⟩:=pL hs.2.1;clear hs;by_cases h16:s % 16=0
  ·have Vj:(s % 16 == 0)=true:=by simpa using h16
   have HR:Hid ((fm o s zs && decide (s % 16=0))=true):=by rw[hh,bF h16];rfl
   clear h16;go_enter func284,ntmps284;go_wp2_with (go_at_call 282;refine (Eh k o s a c zs _ hbig hcap hR').mono ?_;rintro e w' ⟨rfl,hb⟩;have hK':=hK.below hb;have c2:=hK'.c2);go_ret;exact ⟨bQ HR.out.symm,hB.trans (hb.mono hB.size)⟩
  have Vj:(s % 16 == 0)=false:=by simpa using h16
  have HR:Hid ((fm o s zs && decide (s % 16=0))=false):=by rw[bq h16,dU];rfl
  clear h16;go_enter func284,ntmps284;go_wp2_with (go_at_call 282;refine (Eh k o s a c zs _ hbig hcap hR').mono ?_;rintro e w' ⟨rfl,hb⟩;have hK':=hK.below hb;have c2:=hK'.c2);go_ret;exact ⟨bQ HR.out.symm,hB.trans (hb.mono hB.size)⟩
 have hh':fm o s zs=false:=by simpa using hh
 have HR:Hid ((fm o s zs && decide (s % 16=0))=false):=by rw[hh',dH];rfl
 go_enter func284,ntmps284;go_wp2_with (go_at_call 282;refine (Eh k o s a c zs _ hbig hcap hR').mono ?_;rintro e w' ⟨rfl,hb⟩);go_ret;exact ⟨bQ HR.out.symm,hB.trans (hb.mono hB.size)⟩
def gR (zs:List Int):ByteArray:=⟨(zs.map fun z=>UInt8.ofNat z.toNat).toArray⟩
theorem Ei (zs:List Int):(gR zs).size=zs.length:=by simp[gR,ByteArray.size]
theorem Ob (zs:List Int) (k:Nat) (h:k<zs.length):gR (zs.take k) ++ ⟨#[UInt8.ofNat (zs.getD k 0).toNat]⟩=gR (zs.take (k+1)):=by apply gm;rw[mz];apply jB.1;simp only[gR,rX,kr h,yN,mX,AS,eS zs k h]
def iM (k o:Int):ByteArray:=⟨#[UInt8.ofNat k.toNat,UInt8.ofNat o.toNat]⟩
theorem Ej (k o:Int):(iM k o).size=2:=rfl
def sr (k o s:Int) (zs:List Int):ByteArray:=iM k o++ix s++gR zs
def dO (k o s:Int) (zs:List Int):ByteArray:=if eH k o s zs then sr k o s zs++gF (12-zs.length) else ⟨#[]⟩
theorem Im (s:Int) (h0:0<=s) (h1:s<=65535):(ix s).size=2:=by
 rw[ix,show aW s 0 65535=true from bF ⟨h0,h1⟩]
 rfl
theorem Br {k o s:Int} {zs:List Int} (h:eH k o s zs=true):(0<=k/\k<=2)/\(0<=o/\o<=9)/\(0<=s/\s<=192)/\zs.length<=6/\(zs.length:Int)=fC s/\dW zs=true:=by
 have hh:∀ {o s:Int} {zs:List Int},fm o s zs=true->(0<=o/\o<=9)/\(0<=s/\s<=192)/\zs.length<=6/\(zs.length:Int)=fC s/\dW zs=true:=by intro o s zs h;simp only[fm,cj,dC] at h;have h1:=pL h.1;have h2:=pL h.2.1;have h3:=h.2.2.1;refine ⟨h1,h2,?_,h3,h.2.2.2⟩;unfold fC at h3;omega
 unfold eH at h;split at h
 ·rename_i e;simp only[iL,cj,dC] at h;have hz:zs=[]:=mW h.2.2;refine ⟨by omega,by omega,by omega,by omega,?_,?_⟩;·rw[h.2.1,h.2.2];decide
  rw[hz];rfl
 split at h
 ·rename_i e;exact ⟨by omega,hh h⟩
 split at h
 ·rename_i e;simp only[cj] at h;exact ⟨by omega,hh h.1⟩
 cases h
theorem wJ {zs:List Int} (h:dW zs=true) {k:Nat} (hk:k<zs.length):5<=zs.getD k 0/\zs.getD k 0<=23:=by
 have h1:pM zs k=true:=by
  cases hb:pM zs k with
  | true=>rfl
  | false=>rw[dW,yU hk hb] at h;cases h
 simp only[pM,cj] at h1;exact pL h1.1
theorem Io (k o s:Int) (zs:List Int) (h0:0<=s) (h1:s<=65535):(sr k o s zs).size=4+zs.length:=by rw[sr,fk,fk,Ej,Im s h0 h1,Ei]
theorem XM (k o s:Int) (zs:List Int):(dO k o s zs).size<=16:=by
 unfold dO;split
 ·rename_i h;obtain ⟨_,_,hs,hl,_⟩:=Br h;rw[fk,Io _ _ _ _ (by omega) (by omega),ni];omega
 exact aS _
def cm (s:ByteArray) (i:Int):Int:=if h:0<=i/\i+1<s.size then (s[i.toNat]'(by omega)).toNat+256*(s[(i+1).toNat]'(by omega)).toNat else 0
theorem XN (s:ByteArray) (i:Int) (w:World) (hs:s.size<=281474976710656):Calls prog 176 #[.string s,ad i] w fun e w'=>e=.returned (ad (cm s i))/\∃ n,w'=w.drewN n:=by
 by_cases h1:i<0
 ·have e:cm s i=0:=by rw[cm,dif_neg (by omega)]
  rw[e];go_enter func176,ntmps176;go_wp2;go_ret;exact ⟨rfl,0,rfl⟩
 by_cases h2:(s.size:Int)-2<i
 ·have e:cm s i=0:=by rw[cm,dif_neg (by omega)]
  rw[e];go_enter func176,ntmps176;go_wp2;go_ret;exact ⟨rfl,0,rfl⟩
 have e:cm s i=(s[i.toNat]'(by omega)).toNat+256*(s[(i+1).toNat]'(by omega)).toNat:=by rw[cm,dif_pos (by omega)]
 rw[e];have h3:i<(s.size:Int):=by omega
 have h4:i+1<(s.size:Int):=by omega
 have h6:0<=i:=by omega
 have h7:0<=i+1:=by omega
 have b1:=(s[i.toNat]'(by omega)).toNat_lt;have b2:=(s[(i+1).toNat]'(by omega)).toNat_lt;go_enter func176,ntmps176;go_wp2;go_quiet (fail);go_wp2;go_ret;exact ⟨rfl,_,rfl⟩
theorem Ip (s:ByteArray) (i:Int) (w:World) (hs:s.size<=281474976710656):Calls prog 226 #[.string s,ad i] w fun e w'=>e=.returned (ad (cm s i))/\∃ n,w'=w.drewN n:=by
 have hs':s.size<=maxLen:=by unfold maxLen;omega
 by_cases h:cZ s.size i 2=true
 ·obtain ⟨h1,h2,h5⟩:=si h;have e:cm s i=(s[i.toNat]'(by omega)).toNat+(s[(i+1).toNat]'(by omega)).toNat*256:=by rw[cm,dif_pos (by omega),Int.mul_comm]
  rw[e];have h3:i<(s.size:Int):=by omega
  have h4:i+1<(s.size:Int):=by omega
  have h6:0<=i:=by omega
  have h7:0<=i+1:=by omega
  have b1:=(s[i.toNat]'(by omega)).toNat_lt;have b2:=(s[(i+1).toNat]'(by omega)).toNat_lt;go_enter func226,ntmps226;go_wp2_with (go_at_call 139;refine (tH _ _ _ _ hs').mono ?_;rintro e w' ⟨rfl,rfl⟩);go_quiet (fail);go_wp2;go_ret;exact ⟨rfl,_,rfl⟩
 have h':cZ s.size i 2=false:=by simpa using h
 have e:cm s i=0:=by rw[cm,dif_neg (fun h9=>Xt h' (by omega))]
 rw[e];go_enter func226,ntmps226;go_wp2_with (go_at_call 139;refine (tH _ _ _ _ hs').mono ?_;rintro e w' ⟨rfl,rfl⟩);go_ret;exact ⟨rfl,0,rfl⟩
def bA (i:Int):Int:=if aW i 0 7 then 32+i*16 else -1
theorem tI (i:Int) (w:World):Calls prog 73 #[ad i] w (dp (ad (bA i)) w):=by
 by_cases h:aW i 0 7=true
 ·have e:bA i=32+i*16:=by rw[bA,aF h]
  obtain ⟨h1,h2⟩:=pL h;rw[e];go_enter func73,ntmps73;go_wp2_with (go_at_call 26;refine (cH _ _ _ _).mono ?_;rintro e w' ⟨rfl,rfl⟩);go_ret;exact ⟨rfl,rfl⟩
 have h':aW i 0 7=false:=by simpa using h
 have e:bA i = -1:=by rw[bA,aG h]
 rw[e];go_enter func73,ntmps73;go_wp2_with (go_at_call 26;refine (cH _ _ _ _).mono ?_;rintro e w' ⟨rfl,rfl⟩);go_ret;exact ⟨rfl,rfl⟩
theorem su (i:Int) (w:World):Calls prog 91 #[ad i] w (dp (ad (bA i)) w):=by
 by_cases h1:i<0
 ·have e:bA i = -1:=by rw[bA,show aW i 0 7=false from bq (by omega)];rfl
  rw[e];go_enter func91,ntmps91;go_wp2;go_ret;exact ⟨rfl,rfl⟩
 by_cases h2:8<=i
 ·have e:bA i = -1:=by rw[bA,show aW i 0 7=false from bq (by omega)];rfl
  rw[e];go_enter func91,ntmps91;go_wp2;go_ret;exact ⟨rfl,rfl⟩
 have e:bA i=32+i*16:=by rw[bA,show aW i 0 7=true from bF (by omega)];rfl
 rw[e];go_enter func91,ntmps91;go_wp2;go_ret;exact ⟨rfl,rfl⟩
def pN (k:Int) (v:Value):Value:=if k=0 then .iface 292 v else if k=1 then .iface 265 v else if k=2 then .iface 267 v else .nilIface
theorem XO (o s:Int) (a:Option Addr) (c:Nat) (zs:List Int) (w:World) (hbig:zs.length<=281474976710656) (hcap:zs.length<=c) (hR:aI w a zs):Calls prog 230 #[bO 0 o s a zs.length c] w (aT (.tuple #[.iface 292 (bO 0 o s a zs.length c),.bool (iL o s zs)]) w):=by have hB:=aB w (.cells (bj 0 o s a zs.length c) 117);have hR':=hR.alloc (.cells (bj 0 o s a zs.length c) 117);go_enter func230,ntmps230;go_wp2_with (go_at_call 297;refine (XJ 0 o s a c zs.length zs _ rfl).mono ?_;rintro e w' ⟨rfl,hb⟩);go_ret2;exact ⟨rfl,hB.trans (hb.mono hB.size)⟩
theorem XP (o s:Int) (a:Option Addr) (c:Nat) (zs:List Int) (w:World) (hbig:zs.length<=281474976710656) (hcap:zs.length<=c) (hR:aI w a zs):Calls prog 230 #[bO 1 o s a zs.length c] w (aT (.tuple #[.iface 265 (bO 1 o s a zs.length c),.bool (fm o s zs)]) w):=by have hB:=aB w (.cells (bj 1 o s a zs.length c) 117);have hR':=hR.alloc (.cells (bj 1 o s a zs.length c) 117);go_enter func230,ntmps230;go_wp2_with (go_at_call 281;refine (XK 1 o s a c zs _ hbig hcap hR').mono ?_;rintro e w' ⟨rfl,hb⟩);go_ret2;exact ⟨rfl,hB.trans (hb.mono hB.size)⟩
theorem XQ (o s:Int) (a:Option Addr) (c:Nat) (zs:List Int) (w:World) (hbig:zs.length<=281474976710656) (hcap:zs.length<=c) (hR:aI w a zs):Calls prog 230 #[bO 2 o s a zs.length c] w (aT (.tuple #[.iface 267 (bO 2 o s a zs.length c),.bool (fm o s zs && decide (s % 16=0))]) w):=by have hB:=aB w (.cells (bj 2 o s a zs.length c) 117);have hR':=hR.alloc (.cells (bj 2 o s a zs.length c) 117);go_enter func230,ntmps230;go_wp2_with (go_at_call 284;refine (XL 2 o s a c zs _ hbig hcap hR').mono ?_;rintro e w' ⟨rfl,hb⟩);go_ret2;exact ⟨rfl,hB.trans (hb.mono hB.size)⟩
theorem XR (k o s:Int) (a:Option Addr) (c n:Nat) (w:World) (h0:k≠0) (h1:k≠1) (h2:k≠2):Calls prog 230 #[bO k o s a n c] w (aT (.tuple #[.nilIface,.bool false]) w):=by
 have hB:=aB w (.cells (bj k o s a n c) 117);have g0:(k == 0)=false:=by simpa using h0
 have g1:(k == 1)=false:=by simpa using h1
 have g2:(k == 2)=false:=by simpa using h2
 go_enter func230,ntmps230;go_wp2;go_ret2;exact ⟨rfl,hB⟩
theorem Ir (k o s:Int) (a:Option Addr) (c:Nat) (zs:List Int) (w:World) (hbig:zs.length<=281474976710656) (hcap:zs.length<=c) (hR:aI w a zs):Calls prog 230 #[bO k o s a zs.length c] w (aT (.tuple #[pN k (bO k o s a zs.length c),.bool (eH k o s zs)]) w):=by
 by_cases h0:k=0
 ·subst h0;exact XO o s a c zs w hbig hcap hR
 by_cases h1:k=1
 ·subst h1;exact XP o s a c zs w hbig hcap hR
 by_cases h2:k=2
 ·subst h2;exact XQ o s a c zs w hbig hcap hR
 have e1:pN k (bO k o s a zs.length c)=.nilIface:=by rw[pN,aG h0,aG h1,aG h2]
 have e2:eH k o s zs=false:=by rw[eH,aG h0,aG h1,aG h2]
 rw[e1,e2];exact XR k o s a c zs.length w h0 h1 h2
theorem XS (o s:Int) (a:Option Addr) (c n:Nat) (zs:List Int) (w:World) (hn:n=zs.length):Calls prog 162 #[bO 0 o s a n c] w (aT (.bool (iL o s zs)) w):=by
 have hB:=aB w (.cells (bj 0 o s a n c) 117);by_cases h1:o=0
 ·subst h1;by_cases h2:s=0
  ·subst h2;by_cases h3:n=0
   ·have HR:Hid (iL 0 0 zs=true):=by rw[iL,<- hn,h3];rfl
    subst h3;clear hn;go_enter func162,ntmps162;go_wp2;go_ret;exact ⟨bQ HR.out.symm,hB⟩
   have HR:Hid (iL 0 0 zs=false):=by rw[iL,<- hn,bq h3];rfl
   have h3':((n:Int) == 0)=false:=by simp;omega
   clear hn;go_enter func162,ntmps162;go_wp2;go_ret;exact ⟨bQ HR.out.symm,hB⟩
  have HR:Hid (iL 0 s zs=false):=by rw[iL,bq h2,dH,dU];rfl
  have h2':(s == 0)=false:=by simpa using h2
  clear hn;go_enter func162,ntmps162;go_wp2;go_ret;exact ⟨bQ HR.out.symm,hB⟩
 have HR:Hid (iL o s zs=false):=by rw[iL,bq h1,dH];rfl
 have h1':(o == 0)=false:=by simpa using h1
 clear hn;go_enter func162,ntmps162;go_wp2;go_ret;exact ⟨bQ HR.out.symm,hB⟩
theorem XT (k o s:Int) (a:Option Addr) (c:Nat) (zs:List Int) (w:World) (hbig:zs.length<=281474976710656) (hcap:zs.length<=c) (hR:aI w a zs) (h0:k≠0):Calls prog 162 #[bO k o s a zs.length c] w (aT (.bool (eH k o s zs)) w):=by
  have hB:=aB w (.cells (bj k o s a zs.length c) 117);have hR':=hR.alloc (.cells (bj k o s a zs.length c) 117);have hP:Hid (∀ m,Calls prog 79 #[.slice a zs.length c] ((w.alloc (.cells (bj k o s a zs.length c) 117)).drewN m) fun e w'=>e=.returned (.bool (dW zs))/\∃ n,w'=((w.alloc (.cells (bj k o s a zs.length c) 117)).drewN m).drewN n):=fun m=>Ij a c zs _ hbig hcap (hR'.drewN m);clear hR hR';have z0:(k == 0)=false:=by simpa using h0
  by_cases hS:aW s 0 192=true
  · obtain ⟨hs1,hs2⟩:=pL hS;by_cases hd:k=2/\¬ s % 16=0
    · obtain ⟨rfl,h16⟩:=hd;have Vj:(s % 16 != 0)=true:=by simpa using h16
      have HR:Hid (eH 2 o s zs=false):=by
        show (fm o s zs && decide (s % 16=0))=false
        rw[bq h16,dU]
      clear h16;go_enter func162,ntmps162;go_wp2;go_ret;exact ⟨bQ HR.out.symm,hB⟩
    have HK:Hid (aW k 1 2=true->eH k o s zs=fm o s zs):=fun h=>by
      obtain ⟨k1,k2⟩:=pL h;by_cases e1:k=1;· subst e1;rfl
      have e2:k=2:=by omega
      have h16:s % 16=0:=aiL fun h=>hd ⟨e2,h⟩;subst e2;show (fm o s zs && decide (s % 16=0))=fm o s zs
      rw[bF h16,DU]
    have HN:Hid (aW k 1 2=false->eH k o s zs=false):=fun h=>by have:=Xn h;rw[eH,aG h0,aG (by omega),aG (by omega)]
    have hg:(k == 2)=false\/((k == 2)=true/\(s % 16 != 0)=false):=by
      by_cases e2:k=2
      · right;refine ⟨by simpa using e2,?_⟩;have h16:s % 16=0:=aiL fun h=>hd ⟨e2,h⟩;simpa using h16
      left;simpa using e2
    have HH:Hid (fm o s zs=(aW o 0 9 && (decide ((zs.length:Int)=fC s) && dW zs))):=by rw[fm,hS,fe];rfl
    clear hd h0;by_cases g0:aW k 1 2=true
    · by_cases g1:aW o 0 9=true
      · by_cases g2:(zs.length:Int)=fC s
        · have g2':((zs.length:Int) == fC s)=true:=by simpa using g2
          have HR:Hid (eH k o s zs=dW zs):=by rw[HK.out g0,HH.out,g1,bF g2];rfl
          clear g2;rcases hg with hg | ⟨hg,hg2⟩;all_goals
            go_enter func162,ntmps162;go_wp2;go_quiet ((first | (go_at_call 26;first | exact dD (cH _ _ _ _) g0 | exact dD (cH _ _ _ _) g1 | exact dD (cH _ _ _ _) hS) | (go_at_call 177;exact mB (Ik _ _ (by omega) (by omega))) | (go_at_call 79;exact Hs (hP.out _))));go_wp2;go_ret;exact ⟨bQ HR.out.symm,sq _ _ _⟩
        have g2':((zs.length:Int) == fC s)=false:=by simpa using g2
        have HR:Hid (eH k o s zs=false):=by rw[HK.out g0,HH.out,bq g2,dH,dU];rfl
        clear g2;rcases hg with hg | ⟨hg,hg2⟩;all_goals
          go_enter func162,ntmps162;go_wp2;go_quiet ((first | (go_at_call 26;first | exact dD (cH _ _ _ _) g0 | exact dD (cH _ _ _ _) g1 | exact dD (cH _ _ _ _) hS) | (go_at_call 177;exact mB (Ik _ _ (by omega) (by omega)))));go_wp2;go_ret;exact ⟨bQ HR.out.symm,sq _ _ _⟩
      have g1':aW o 0 9=false:=by simpa using g1
      have HR:Hid (eH k o s zs=false):=by rw[HK.out g0,HH.out,g1',dH];rfl
      rcases hg with hg | ⟨hg,hg2⟩;all_goals
        go_enter func162,ntmps162;go_wp2;go_quiet ((go_at_call 26;first | exact dD (cH _ _ _ _) g0 | exact dD (cH _ _ _ _) g1'));go_wp2;go_ret;exact ⟨bQ HR.out.symm,sq _ _ _⟩
    have g0':aW k 1 2=false:=by simpa using g0
    have HR:Hid (eH k o s zs=false):=HN.out g0';rcases hg with hg | ⟨hg,hg2⟩;all_goals
      go_enter func162,ntmps162;go_wp2;go_quiet ((go_at_call 26;exact dD (cH _ _ _ _) g0'));go_wp2;go_ret;exact ⟨bQ HR.out.symm,sq _ _ _⟩
  have hS':aW s 0 192=false:=by simpa using hS
  have HR:Hid (eH k o s zs=false):=by
    show eH k o s zs=false
    have hf:fm o s zs=false:=by rw[fm,hS',dH,dU]
    rw[eH,aG h0];split;· exact hf
    split;· rw[hf];rfl
    rfl
  clear hS;have hg:(k == 2)=false\/(k == 2)=true:=by cases (k == 2) <;> simp
  by_cases g0:aW k 1 2=true
  · by_cases g1:aW o 0 9=true
    · rcases hg with hg | hg;all_goals
        go_enter func162,ntmps162;go_wp2;all_goals first
          | (go_ret
             exact ⟨bQ HR.out.symm,hB⟩)
          | (go_quiet ((go_at_call 26;first | exact dD (cH _ _ _ _) g0 | exact dD (cH _ _ _ _) g1 | exact dD (cH _ _ _ _) hS'))
             go_wp2;go_ret;exact ⟨bQ HR.out.symm,sq _ _ _⟩)
    have g1':aW o 0 9=false:=by simpa using g1
    rcases hg with hg | hg;all_goals
      go_enter func162,ntmps162;go_wp2;all_goals first
        | (go_ret
           exact ⟨bQ HR.out.symm,hB⟩)
        | (go_quiet ((go_at_call 26;first | exact dD (cH _ _ _ _) g0 | exact dD (cH _ _ _ _) g1'))
           go_wp2;go_ret;exact ⟨bQ HR.out.symm,sq _ _ _⟩)
  have g0':aW k 1 2=false:=by simpa using g0
  rcases hg with hg | hg;all_goals
    go_enter func162,ntmps162;go_wp2;all_goals first
      | (go_ret
         exact ⟨bQ HR.out.symm,hB⟩)
      | (go_quiet ((go_at_call 26;exact dD (cH _ _ _ _) g0'))
         go_wp2;go_ret;exact ⟨bQ HR.out.symm,sq _ _ _⟩)
theorem Oc (k o s:Int) (a:Option Addr) (c:Nat) (zs:List Int) (w:World) (hbig:zs.length<=281474976710656) (hcap:zs.length<=c) (hR:aI w a zs):Calls prog 162 #[bO k o s a zs.length c] w (aT (.bool (eH k o s zs)) w):=by
 by_cases h0:k=0
 ·subst h0;exact XS o s a c zs.length zs w rfl
 exact XT k o s a c zs w hbig hcap hR h0
section
def fo (base:Nat) (w:World) (g n cap:Nat) (t:ByteArray):Prop:=n=t.size/\w.ownsRow base 5 1 (.slice (some ⟨g,0,none⟩) n cap) n (Lib.strCells t)
theorem Is:(prog.info? 5).map (fun i=>(i.zero,i.size,i.bytes))=some (some (.int .u8 0),1,1):=by kernel_rfl
variable {base g n cap : Nat} {w W : World} {t : ByteArray}
theorem uO {e:TypeId} {size:Nat} {v:Value} {xs:List Value} (h:w.ownsRow base e size v n xs) (hb:aj w W):W.ownsRow base e size v n xs:=by
 refine ⟨h.1,?_⟩;rcases h.2 with h0 | ⟨g,cap,cur,hv,hg,hc,r⟩;·exact Or.inl h0
 refine Or.inr ⟨g,cap,cur,hv,hg,?_,r⟩;rw[hb.block g (mY.1 hc).1];exact hc
theorem lY {B:Nat} {w W W':World} {row:Option Nat} (h:Below B w W) (hg:W.grownBy W' row) (hr:∀ g,row=some g->B<=g) (hB:B<=W.heap.size):Below B w W':=
 ⟨hg.os.trans h.os,hg.tape.trans h.tape,hg.output.trans h.output,bt h.size hg.size,fun k hk=>by rw[hg.block k (by omega) (fun e=>by have:=hr k e.symm;omega)];exact h.block k hk⟩
theorem fo.below (h:fo base w g n cap t) (hb:aj w W):fo base W g n cap t:=⟨h.1,uO h.2 hb⟩
theorem fo.alloc (h:fo base w g n cap t) (o:Obj):fo base (w.alloc o) g n cap t:=h.below ((aK _ _).alloc (aq _) o)
theorem fo.drew (h:fo base w g n cap t):fo base w.drew g n cap t:=h
theorem fo.lt (h:fo base w g n cap t):base<=g/\g<w.heap.size:=h.2.lt g rfl
theorem fo.holds (h:fo base w g n cap t):tG w g 0 t.data.toList:=by
 intro j hj;have hj':j<t.size:=by rw[cV];exact hj
 have:=h.2.cells (g:=g) rfl j (.int .u8 (t.data.toList[j].toNat:Int)) (by
  have hj2:j<t.data.size:=by simpa using hj
  simp[Lib.strCells];exact ⟨_,WO hj2,rfl⟩)
 rw[nT] at this;exact this
theorem fo.conv (h:fo base w g n cap t):(convert 22 9 (bg g n cap)).run prog w=.ok (.string t) w:=by have:=qE (P:=prog) w 22 9 5 g 0 cap t.data.toList underlying22 underlying5 underlying9 h.holds n (by rw[h.1,cV]);rwa [yL] at this
theorem Od (w:World) (x y:Int) (hx:0<=x/\x<256) (hy:0<=y/\y<256) (hb:base<=w.heap.size):fo base (w.alloc (.cells #[.int .u8 x,.int .u8 y] 5)) w.heap.size 2 2 ⟨#[UInt8.ofNat x.toNat,UInt8.ofNat y.toNat]⟩:=by
 have e1:x.toNat<256:=by omega
 have e2:y.toNat<256:=by omega
 refine ⟨rfl,by simp[Lib.strCells],Or.inr ⟨w.heap.size,2,#[.int .u8 x,.int .u8 y],rfl,hb,pF w _,aq _,by unfold maxLen;omega,rfl,?_⟩⟩;simp[Lib.strCells,Hr e1,Hr e2];omega
theorem fo.at (h:fo base w g n cap t) {g':Nat} (e:g=g'):fo base w g' n cap t:=e ▸ h
theorem XU (w:World) (C:Array Value) (cap:Nat) (hc:C.size=cap) (hm:cap<=maxLen) (hb:base<=w.heap.size):fo base (w.alloc (.cells C 5)) w.heap.size 0 cap ⟨#[]⟩:=⟨rfl,tu w C cap hb hm (by omega)⟩
theorem Oe (t s:ByteArray):Lib.strCells t++Lib.strCells s=Lib.strCells (t++s):=by simp[Lib.strCells,mz]
theorem Og {ops:Array Oper} {rest:List Oper} {o:Oper} {a:Act} {Q:Exit->Act->World->Prop} (hgd:o.guard=none) (sl x:Operand) (ho:o.op=.call { callee:=.builtin .append,args:=#[sl,x],argTypes:=#[22,9] }) (hbuf:fo base w g n cap t) (s:ByteArray) (hs:a.eval sl=bg g n cap) (hx:a.eval x=.string s) (hlen:n+s.size<=140737488355328) (hb:base<=w.heap.size) (h:∀ g' cap' w',fo base w' g' (n+s.size) cap' (t++s)->Below base w w'->wpList prog ops Q rest (a.put o.dst (bg g' (n+s.size) cap')) w'):wpList prog ops Q (o :: rest) a w:=by
 obtain ⟨i0,hi,hz0,hz1,hz2⟩:=iW Is;refine Lib.wpList_append_own_string w hgd sl x 22 9 ho base 5 i0 underlying22 underlying9 hi hz0 hz1 hz2 _ n _ hs hbuf.2 s hx (by unfold maxLen;omega) hlen hb ?_;intro v' w' ho' hg' hnil;rcases ho'.2 with ⟨h0,_⟩ | ⟨g',cap',cur,hv,r⟩;·exact absurd ((hnil.1 h0).1) (by simp)
 subst hv;refine h g' cap' w' ⟨by rw[hbuf.1,fk],?_⟩ ?_
 ·rw[<- Oe];exact ho'
 exact lY (aK _ _) hg' (fun k hk=>by
  have hk':g=k:=by simpa [Value.ownBlock] using hk
  exact hk' ▸ hbuf.lt.1) hb
theorem XV (c:Int):∀ u ∈ [Value.int .u8 c],u.oneCell'=true:=by intro u h;simp at h;subst h;rfl
theorem Oh {ops:Array Oper} {rest:List Oper} {o:Oper} {a:Act} {Q:Exit->Act->World->Prop} (hgd:o.guard=none) (sl x:Operand) (ho:o.op=.call { callee:=.builtin .append,args:=#[sl,x],argTypes:=#[22,22] }) (hbuf:fo base w g n cap t) (c:Int) (hc:0<=c/\c<256) (hs:a.eval sl=bg g n cap) (hx:a.eval x=bg w.heap.size 1 1) (hlen:n+1<=140737488355328) (hb:base<=w.heap.size) (h:∀ g' cap' w',fo base w' g' (n+1) cap' (t ++ ⟨#[UInt8.ofNat c.toNat]⟩)->Below base w w'->wpList prog ops Q rest (a.put o.dst (bg g' (n+1) cap')) w'):wpList prog ops Q (o :: rest) a (w.alloc (.cells #[.int .u8 c] 5)):=by
 obtain ⟨i0,hi,hz0,hz1,hz2⟩:=iW Is;have hb2:=hbuf.alloc (.cells #[.int .u8 c] 5);refine rY _ hgd sl x 22 ho base 5 i0 (.int .u8 0) 1 1 underlying22 hi hz0 hz1 hz2 rfl (by omega) _ n _ hs hb2.2 ⟨w.heap.size,0,none⟩ 1 1 [.int .u8 c] hx rfl (rZ (pF w _)) (XV c) (by omega) (by unfold maxLen;omega) (by omega) (by simp;omega) _ rfl ?_;intro g' cap' w' ho' hg' _ _;have e1:c.toNat<256:=by omega
 refine h g' cap' w' ⟨by rw[hbuf.1,fk];rfl,?_⟩ ?_
 ·rw[<- Oe];have e:Lib.strCells ⟨#[UInt8.ofNat c.toNat]⟩=[.int .u8 c]:=by
   simp[Lib.strCells,Hr e1];omega
  rw[e];exact ho'
 exact lY ((aK _ _).alloc hb _) hg' (fun k hk=>by
  have hk':g=k:=by simpa [Value.ownBlock] using hk
  exact hk' ▸ hbuf.lt.1) (by simp;omega)
end
end Go.Proofs.YtidmmopnkjbjoaaGreatDoor
