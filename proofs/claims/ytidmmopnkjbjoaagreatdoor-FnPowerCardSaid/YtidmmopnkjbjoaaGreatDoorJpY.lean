/- Joined texts. -/
import Derived.Test.YtidmmopnkjbjoaaGreatDoorJpX
import Derived.Test.YtidmmopnkjbjoaaGreatDoorJpW
import Derived.Test.YtidmmopnkjbjoaaGreatDoorJpR
set_option linter.unusedVariables false
set_option linter.unusedSimpArgs false
set_option maxRecDepth 10000
set_option maxHeartbeats 16000000
namespace Go.Proofs.YtidmmopnkjbjoaaGreatDoor
open ChangeShapes WideShapes ChangeAt RowKit
open Go.Proofs.Tryz
def kg (k:aL) (j:Nat):Bool:=tW (bM k) (cY (bM k)) (gB (bM k)) (au k.ds j)
abbrev fi (ds:List ak):List Int:=bD (fun d:ak=>[d.ino]) ds ds.length
abbrev kh (ds:List ak):List Int:=bD (fun d:ak=>d.fr) ds ds.length
abbrev sV (ds:List ak):List Int:=bD (fun d:ak=>d.po) ds ds.length
def zW (k:aL):Bool:=k.mem.toList == (fI k.mem k.ay k.ds k.ds.length).toList
def fj (k:aL):Bool:=cT k.mem k.ay && (!decide (k.ck<0) && (!decide (999999<k.ck) && (dJ (fi k.ds) && (cv (bM k) && (bC (kg k) k.ds.length && (dM (fi k.ds++kh k.ds) && (dM (sV k.ds) && zW k)))))))
theorem JV (f:ak->List Int) (ds:List ak) (b n:Nat) (h:∀ j,j<n->(f (au ds j)).length<=b):∀ k,k<=n->(bD f ds k).length<=k*b
 | 0,_=>by simp[bD]
 | k+1,hk=>by have h1:=JV f ds b n h k (by omega);have h2:=h k (by omega);rw[bD,bY,Nat.succ_mul];omega
theorem zX (ds:List ak):∀ k,(bD (fun d:ak=>[d.ino]) ds k).length=k
 | 0=>rfl
 | k+1=>by rw[bD,bY,zX ds k];rfl
theorem xH (ds:List ak):∀ k i,i<k->(bD (fun d:ak=>[d.ino]) ds k).getD i 0=(au ds i).ino
 | 0,i,h=>by omega
 | k+1,i,h=>by
  rw[bD];have hl:=zX ds k;by_cases hi:i<k
  ·have h1:=xH ds k i hi;rw[jR] at h1 ⊢;rw[pK (by omega)];exact h1
  ·obtain rfl:i=k:=by omega
   rw[jR,ng (by omega),hl];simp
theorem Sf {zs:List Int} (h:dJ zs=true) (h0:∀ i,i<zs.length->0<=zs.getD i 0):∀ i,i<zs.length->(i:Int)<=zs.getD i 0
 | 0,hi=>h0 0 hi
 | i+1,hi=>by have h1:=Sf h h0 i (by omega);have h2:=iN.1 h (i+1) hi;simp only[qJ,kY,dC,Nat.add_sub_cancel] at h2;omega
theorem adO {k:aL} (h1:dJ (fi k.ds)=true) (h2:bC (kg k) k.ds.length=true):k.ds.length<=8/\∀ j,j<k.ds.length->bT (au k.ds j)=true:=by
 have hok:∀ j,j<k.ds.length->bT (au k.ds j)=true:=fun j hj=>by have h:=iN.1 h2 j hj;simp only[kg,tW,cj] at h;exact h.1
 refine ⟨?_,hok⟩;have hl:=zX k.ds k.ds.length;have Lm:∀ i,i<k.ds.length->0<=(au k.ds i).ino/\(au k.ds i).ino<=7:=fun i hi=>(iO (hok i hi)).2.2.2.2.1;by_cases h:k.ds.length<=8;·exact h
 have h3:=Sf h1 (fun i hi=>by
  have hi':i<k.ds.length:=by rw[<- hl];exact hi
  show 0<=(bD (fun d:ak=>[d.ino]) k.ds k.ds.length).getD i 0
  rw[xH k.ds k.ds.length i hi'];exact (Lm i hi').1) 8 (by show 8<(bD (fun d:ak=>[d.ino]) k.ds k.ds.length).length;omega)
 have h4:=(Lm 8 (by omega)).2;have h5:(fi k.ds).getD 8 0=(au k.ds 8).ino:=xH k.ds k.ds.length 8 (by omega);omega
theorem Sg {k:aL} (h1:dJ (fi k.ds)=true) (h2:bC (kg k) k.ds.length=true):(fi k.ds++kh k.ds).length<=1000/\(sV k.ds).length<=1000:=by
 obtain ⟨h8,hok⟩:=adO h1 h2;have a1:=zX k.ds k.ds.length;have a2:=JV (fun d:ak=>d.fr) k.ds 2 k.ds.length (fun j hj=>(iO (hok j hj)).2.2.2.2.2.2.2.2.1) k.ds.length (aq _);have a3:=JV (fun d:ak=>d.po) k.ds 4 k.ds.length (fun j hj=>(iO (hok j hj)).2.2.2.2.2.2.2.1) k.ds.length (aq _);refine ⟨?_,by show (bD (fun d:ak=>d.po) k.ds k.ds.length).length<=1000;omega⟩;rw[bY];show (bD (fun d:ak=>[d.ino]) k.ds k.ds.length).length+(bD (fun d:ak=>d.fr) k.ds k.ds.length).length<=1000
 omega
theorem JW (k:aL) (a:Option Addr) (c:Nat) (ss:Nat->aA) (w:World) (hm1:k.mem.size<=1048576) (hm2:k.ay.size<=1048576) (ht:k.ds.length+ft k.ds k.ds.length<=1048576) (hF:jJ k.ds ss) (hR:aZ w a k.ds ss):Calls prog 10 #[aU k a c] w (aT (.bool (fj k)) w):=by
 have xc:=tU w k a c;have hn:k.ds.length<=1048576:=by omega
 have hgi:(fi k.ds).length<=1048576:=by
  have h1:=zX k.ds k.ds.length;show (bD (fun d:ak=>[d.ino]) k.ds k.ds.length).length<=1048576
  omega
 have hgf:(kh k.ds).length<=1048576:=by
  have h1:=qb (fun d:ak=>d.fr) k.ds 0 (fun d=>by unfold fD;omega) k.ds.length;show (bD (fun d:ak=>d.fr) k.ds k.ds.length).length<=1048576
  omega
 have HL:Hid (∀ W,aj w W->aZ W a k.ds ss):=fun W hb=>hR.below hb;have wv:Hid (∀ W,aj w W->Calls prog 34 #[.slice a k.ds.length c] W fun e w'=>∃ a c,e=.returned (.slice a (fi k.ds).length c)/\aI w' a (fi k.ds)/\aj W w'):=fun W hb=>(acX a c k.ds ss W hn ht (hR.below hb)).mono fun e w' ⟨a,c,he,ho,_,hb⟩=>⟨a,c,he,ho.row,hb⟩;have uy:Hid (∀ W,aj w W->Calls prog 41 #[.slice a k.ds.length c] W fun e w'=>∃ a c,e=.returned (.slice a (kh k.ds).length c)/\aI w' a (kh k.ds)/\aj W w'):=fun W hb=>(acY a c k.ds ss W hn ht (hR.below hb)).mono fun e w' ⟨a,c,he,ho,_,hb⟩=>⟨a,c,he,ho.row,hb⟩;have sZ:Hid (∀ W,aj w W->Calls prog 42 #[.slice a k.ds.length c] W fun e w'=>∃ a c,e=.returned (.slice a (sV k.ds).length c)/\aI w' a (sV k.ds)/\aj W w'):=fun W hb=>(acZ a c k.ds ss W hn ht (hR.below hb)).mono fun e w' ⟨a,c,he,ho,_,hb⟩=>⟨a,c,he,ho.row,hb⟩;have jP:Hid (∀ W,Calls prog 35 #[.agg #[.string k.mem,.string k.ay]] W (aT (.bool (cT k.mem k.ay)) W)):=fun W=>(Ez k.mem k.ay W (by unfold maxLen;omega) (by unfold maxLen;omega)).mono fun e w' ⟨he,hw⟩=>⟨he,by rw[hw];exact aB _ _⟩;have yy:Hid (∀ a c W,aI W a (fi k.ds)->Calls prog 36 #[.slice a (fi k.ds).length c] W fun e w'=>e=.returned (.bool (dJ (fi k.ds)))/\∃ n,w'=W.drewN n):=fun a c W h=>Bw a c _ W (by omega) h;have Nc:Hid (∀ W,aj w W->_):=fun W hb=>adE k a c ss W (by omega) hn hF (hR.below hb);have AF:Hid (∀ W e w',JR k W e w'->∃ x a1 n1 c1 a2 n2 c2,e=.returned (.tuple #[.agg #[.string x,.slice a1 n1 c1,.slice a2 n2 c2],.bool (cv (bM k))])/\aj W w'/\(cv (bM k)=true->x=bM k/\n1=(cY (bM k)).length/\n2=(gB (bM k)).length/\aI w' a1 (cY (bM k))/\aI w' a2 (gB (bM k)))):=fun W e w' h=>h;have qv:Hid (∀ (j:Nat) (a1 a2:Option Addr) (c1 c2:Nat) W,(bM k).size=768->aj w W->aI W a1 (cY (bM k))->aI W a2 (gB (bM k))->j<k.ds.length->Calls prog 38 #[.agg #[.string (bM k),.slice a1 (cY (bM k)).length c1,.slice a2 (gB (bM k)).length c2],bH (au k.ds j) (ss j)] W (aT (.bool (kg k j)) W)):=fun j a1 a2 c1 c2 W h1 hb r1 r2 hj=>by obtain ⟨f1,f2,f3⟩:=hF j hj;have hfl:=Sa (bM k);exact adG (bM k) a1 a2 c1 c2 (cY (bM k)) (gB (bM k)) (au k.ds j) (ss j) W h1 f1 f2 f3 (JN _) (by rw[R9];omega) ((hR.below hb).sub j hj) r1 r2
 have lP:Hid (∀ (ia fa:Option Addr) (ic fc:Nat) W,aI W ia (fi k.ds)->aI W fa (kh k.ds)->Calls prog 40 #[bg W.heap.size 2 2] (W.alloc (.cells #[.slice ia (fi k.ds).length ic,.slice fa (kh k.ds).length fc] 29)) fun e w'=>∃ a c,e=.returned (.slice a (fi k.ds++kh k.ds).length c)/\aI w' a (fi k.ds++kh k.ds)/\aj W w'):=fun ia fa ic fc W r1 r2=>by have nb:=aB W (.cells #[.slice ia (fi k.ds).length ic,.slice fa (kh k.ds).length fc] 29);have bk:=bu [.slice ia (fi k.ds).length ic,.slice fa (kh k.ds).length fc] W 29;exact (OI W.heap.size ia fa ic fc (fi k.ds) (kh k.ds) _ bk.c0 bk.c1 bk.lt (r1.below nb) (r2.below nb) hgi hgf).mono fun e w' ⟨a,c,he,ho,_,hb⟩=>⟨a,c,he,ho.row,nb.trans (hb.mono nb.size)⟩
 have HA1:Hid (dJ (fi k.ds)=true->bC (kg k) k.ds.length=true->∀ a c W,aI W a (fi k.ds++kh k.ds)->Calls prog 39 #[.slice a (fi k.ds++kh k.ds).length c] W (aT (.bool (dM (fi k.ds++kh k.ds))) W)):=fun h1 h2 a c W h=>RO a c _ W (Sg h1 h2).1 h;have HA2:Hid (dJ (fi k.ds)=true->bC (kg k) k.ds.length=true->∀ a c W,aI W a (sV k.ds)->Calls prog 39 #[.slice a (sV k.ds).length c] W (aT (.bool (dM (sV k.ds))) W)):=fun h1 h2 a c W h=>RO a c _ W (Sg h1 h2).2 h;have MK:Hid (cT k.mem k.ay=true->∀ W,aj w W->Calls prog 43 #[aU k a c] W (aT (.bool (zW k)) W)):=fun h W hb=>adI k a c ss W (nW h).1 (nW h).2 hn hF (hR.below hb);have HD:Hid (cT k.mem k.ay=true->(bM k).size=768):=fun h=>by rw[show (bM k).size=k.mem.size from ml _ _ _];exact (nW h).1
 have c0:=xc.arg.c0;have c1:=xc.arg.c1;have c2:=xc.arg.c2;have c3:=xc.arg.c3;clear hR hF;unfold fj;obtain ⟨m,em⟩:∃ m,bM k=m:=⟨_,rfl⟩;obtain ⟨us,eu⟩:∃ us,cY m=us:=⟨_,rfl⟩;obtain ⟨fs,ef⟩:∃ fs,gB m=fs:=⟨_,rfl⟩;rw[em,eu,ef] at qv AF;rw[em] at HD ⊢;obtain ⟨gi,VR⟩:∃ g,fi k.ds=g:=⟨_,rfl⟩;obtain ⟨gf,UC⟩:∃ g,kh k.ds=g:=⟨_,rfl⟩;obtain ⟨gp,U5⟩:∃ g,sV k.ds=g:=⟨_,rfl⟩;rw[VR] at wv yy lP HA1 HA2 ⊢;rw[UC] at uy lP HA1 ⊢;rw[U5] at sZ HA2 ⊢;obtain ⟨gq,Vb⟩:∃ g,gi++gf=g:=⟨_,rfl⟩;rw[Vb] at lP HA1 ⊢;clear em eu ef VR UC U5 Vb hgi hgf;cases hc0:cT k.mem k.ay with
 | false=>
  rw[hc0] at jP;go_enter func10,ntmps10;go_wp2_with (first
   | (go_at_call 34;refine (wv.out _ xc.ah).mono ?_;rintro e w1 ⟨ia,ic,rfl,ir,b1⟩;replace xc:=xc.below b1;replace c0:=xc.arg.c0;replace c1:=xc.arg.c1;replace c2:=xc.arg.c2;replace c3:=xc.arg.c3)
   | (go_at_call 35;refine (jP.out _).mono ?_;rintro e w1 ⟨rfl,b1⟩;replace xc:=xc.below b1;replace c0:=xc.arg.c0;replace c1:=xc.arg.c1;replace c2:=xc.arg.c2;replace c3:=xc.arg.c3;replace ir:=ir.below b1))
  go_ret;exact ⟨rfl,xc.ah⟩
 | true=>
  have hm:m.size=768:=HD.out hc0;replace MK:Hid (∀ W,aj w W->Calls prog 43 #[aU k a c] W (aT (.bool (zW k)) W)):=MK.out hc0;rw[hc0] at jP;by_cases hq4:k.ck<0
  ·rw[bF hq4];go_enter func10,ntmps10;go_wp2_with (first
    | (go_at_call 34;refine (wv.out _ xc.ah).mono ?_;rintro e w1 ⟨ia,ic,rfl,ir,b1⟩;replace xc:=xc.below b1;replace c0:=xc.arg.c0;replace c1:=xc.arg.c1;replace c2:=xc.arg.c2;replace c3:=xc.arg.c3)
    | (go_at_call 35;refine (jP.out _).mono ?_;rintro e w1 ⟨rfl,b1⟩;replace xc:=xc.below b1;replace c0:=xc.arg.c0;replace c1:=xc.arg.c1;replace c2:=xc.arg.c2;replace c3:=xc.arg.c3;replace ir:=ir.below b1))
   go_ret;exact ⟨rfl,xc.ah⟩
  ·rw[bq hq4];have hr4:decide (k.ck<0)=false:=bq hq4;by_cases MZ:999999<k.ck
   ·rw[bF MZ];go_enter func10,ntmps10;go_wp2_with (first
     | (go_at_call 34;refine (wv.out _ xc.ah).mono ?_;rintro e w1 ⟨ia,ic,rfl,ir,b1⟩;replace xc:=xc.below b1;replace c0:=xc.arg.c0;replace c1:=xc.arg.c1;replace c2:=xc.arg.c2;replace c3:=xc.arg.c3)
     | (go_at_call 35;refine (jP.out _).mono ?_;rintro e w1 ⟨rfl,b1⟩;replace xc:=xc.below b1;replace c0:=xc.arg.c0;replace c1:=xc.arg.c1;replace c2:=xc.arg.c2;replace c3:=xc.arg.c3;replace ir:=ir.below b1))
    go_ret;exact ⟨rfl,xc.ah⟩
   rw[bq MZ];have Vv:decide (999999<k.ck)=false:=bq MZ;cases hc3:dJ gi with
   | false=>
    rw[hc3] at yy;go_enter func10,ntmps10;go_wp2_with (first
     | (go_at_call 34;refine (wv.out _ xc.ah).mono ?_;rintro e w1 ⟨ia,ic,rfl,ir,b1⟩;replace xc:=xc.below b1;replace c0:=xc.arg.c0;replace c1:=xc.arg.c1;replace c2:=xc.arg.c2;replace c3:=xc.arg.c3)
     | (go_at_call 35;refine (jP.out _).mono ?_;rintro e w1 ⟨rfl,b1⟩;replace xc:=xc.below b1;replace c0:=xc.arg.c0;replace c1:=xc.arg.c1;replace c2:=xc.arg.c2;replace c3:=xc.arg.c3;replace ir:=ir.below b1)
     | (go_at_call 36;refine (yy.out _ _ _ ir).mono ?_;rintro e w1 ⟨rfl,n1,rfl⟩;replace xc:=xc.below (cL (aK _ _) n1);replace c0:=xc.arg.c0;replace c1:=xc.arg.c1;replace c2:=xc.arg.c2;replace c3:=xc.arg.c3;replace ir:=ir.below (cL (aK _ _) n1)))
    go_ret;exact ⟨rfl,xc.ah⟩
   | true=>
    replace HA1:=HA1.out hc3;replace HA2:=HA2.out hc3;have HA1:Hid _:=HA1;have HA2:Hid _:=HA2;rw[hc3] at yy;cases hc4:cv m with
    | false=>
     rw[hc4] at AF;go_enter func10,ntmps10;go_wp2_with (first
      | (go_at_call 34;refine (wv.out _ xc.ah).mono ?_;rintro e w1 ⟨ia,ic,rfl,ir,b1⟩;replace xc:=xc.below b1;replace c0:=xc.arg.c0;replace c1:=xc.arg.c1;replace c2:=xc.arg.c2;replace c3:=xc.arg.c3)
      | (go_at_call 35;refine (jP.out _).mono ?_;rintro e w1 ⟨rfl,b1⟩;replace xc:=xc.below b1;replace c0:=xc.arg.c0;replace c1:=xc.arg.c1;replace c2:=xc.arg.c2;replace c3:=xc.arg.c3;replace ir:=ir.below b1)
      | (go_at_call 36;refine (yy.out _ _ _ ir).mono ?_;rintro e w1 ⟨rfl,n1,rfl⟩;replace xc:=xc.below (cL (aK _ _) n1);replace c0:=xc.arg.c0;replace c1:=xc.arg.c1;replace c2:=xc.arg.c2;replace c3:=xc.arg.c3;replace ir:=ir.below (cL (aK _ _) n1))
      | (go_at_call 37;refine (Nc.out _ xc.ah).mono ?_;intro e w1 hans;obtain ⟨vx,ym,vn1,Dv,yz,vn2,Di,rfl,b1,hy⟩:=AF.out _ _ _ hans;clear hans;clear hy;replace xc:=xc.below b1;replace c0:=xc.arg.c0;replace c1:=xc.arg.c1;replace c2:=xc.arg.c2;replace c3:=xc.arg.c3;replace ir:=ir.below b1))
     go_ret;exact ⟨rfl,xc.ah.alloc xc.ah.size _⟩
    | true=>
     rw[hc4] at AF;go_enter func10,ntmps10;go_wp2_with (first
      | (go_at_call 34;refine (wv.out _ xc.ah).mono ?_;rintro e w1 ⟨ia,ic,rfl,ir,b1⟩;replace xc:=xc.below b1;replace c0:=xc.arg.c0;replace c1:=xc.arg.c1;replace c2:=xc.arg.c2;replace c3:=xc.arg.c3)
      | (go_at_call 35;refine (jP.out _).mono ?_;rintro e w1 ⟨rfl,b1⟩;replace xc:=xc.below b1;replace c0:=xc.arg.c0;replace c1:=xc.arg.c1;replace c2:=xc.arg.c2;replace c3:=xc.arg.c3;replace ir:=ir.below b1)
      | (go_at_call 36;refine (yy.out _ _ _ ir).mono ?_;rintro e w1 ⟨rfl,n1,rfl⟩;replace xc:=xc.below (cL (aK _ _) n1);replace c0:=xc.arg.c0;replace c1:=xc.arg.c1;replace c2:=xc.arg.c2;replace c3:=xc.arg.c3;replace ir:=ir.below (cL (aK _ _) n1))
      | (go_at_call 37;refine (Nc.out _ xc.ah).mono ?_;intro e w1 hans;obtain ⟨vx,ym,vn1,Dv,yz,vn2,Di,rfl,b1,hy⟩:=AF.out _ _ _ hans;clear hans;obtain ⟨vq1,vq2,vq3,UJ,UD⟩:=hy (by trivial);clear hy;subst vq1;subst vq2;subst vq3;replace xc:=xc.below b1;replace c0:=xc.arg.c0;replace c1:=xc.arg.c1;replace c2:=xc.arg.c2;replace c3:=xc.arg.c3;replace ir:=ir.below b1;have nb:=aB w1 (.cells #[.string vx,.slice ym us.length Dv,.slice yz fs.length Di] 63);have vb:=bu [.string vx,.slice ym us.length Dv,.slice yz fs.length Di] w1 63;have xd:=xc.below nb;have cd2:=xd.arg.c2))
     have WE:=UJ.below nb;have U0:=UD.below nb;have Ux:=ir.below nb;obtain ⟨VB,Me⟩:∃ VB,w1.heap.size=VB:=⟨_,rfl⟩;rw[Me] at vb;try simp only[Me]
     clear c0 c1 c2 c3 cd2 xc UJ UD ir nb wv jP yy Nc AF HD Me;go_loopw [40] (fun i w'=>∃ j:Nat,j<=k.ds.length/\bC (kg k) j=true/\i=ad j/\pY w k a c w'/\av VB [.string vx,.slice ym us.length Dv,.slice yz fs.length Di] w'/\aI w' ym us/\aI w' yz fs/\aI w' ia gi) (fun i _=>k.ds.length-(intOf i).toNat);case atStart=>exact ⟨0,aS _,rfl,rfl,xd,vb,WE,U0,Ux⟩
     case round=>
      obtain ⟨j,hj,hto,rfl,xr,VC,Wc,U4,L4⟩:=hrel;clear xd vb WE U0 Ux;by_cases hlt:j<k.ds.length
      ·obtain ⟨b,off,hab,fW,hc⟩:=(HL.out _ xr.ah).row.get hlt;obtain ⟨y0,y1,y2,y3,y4,y5,y6,y7⟩:=hc j hlt;have HC:Hid (∀ W,aj w W->aI W ym us->aI W yz fs->_):=fun W h1 h2 h3=>qv.out j ym yz Dv Di W hm h1 h2 h3 hlt;obtain ⟨d,ed⟩:∃ d,au k.ds j=d:=⟨_,rfl⟩;obtain ⟨s,es⟩:∃ s,ss j=s:=⟨_,rfl⟩;rw[ed,es] at HC;rw[ed] at y0 y1 y2 y3 y4 y5 y6 y7;rw[es] at y4 y6 y7;have e1:(0:Int)<=(j:Int):=by omega
       have e2:(j:Int)<(k.ds.length:Int):=by omega
       have nb:=aB wr (.cells (dZ d s) 49);have bx:=lf d s wr 49;have z0:=bx.c0;have z1:=bx.c1;have z2:=bx.c2;have z3:=bx.c3;have z4:=bx.c4;have z5:=bx.c5;have z6:=bx.c6;have z7:=bx.c7;have x2:=xr.below nb;have GG:=VC.below nb;have p1:=Wc.below nb;have p2:=U4.below nb;have p3:=L4.below nb;have v0:=GG.c0;have v1:=GG.c1;have v2:=GG.c2;subst hab;clear ed es hc HL qv;cases hat:kg k j with
       | false=>
        rw[hat] at HC;have HT:Hid (bC (kg k) k.ds.length=false):=jD hlt hat;clear hat;go_wp2_with (go_at_call 38;refine (HC.out _ x2.ah p1 p2).mono ?_;rintro e w3 ⟨rfl,b3⟩;have x3:=x2.below b3);go_ret;exact ⟨by rw[HT.out];rfl,x3.ah⟩
       | true=>
        rw[hat] at HC;have HT:Hid (bC (kg k) (j+1)=true):=jW hto hat;clear hat;go_wp2_with (go_at_call 38;refine (HC.out _ x2.ah p1 p2).mono ?_;rintro e w3 ⟨rfl,b3⟩;have x3:=x2.below b3;have vb3:=GG.below b3;have t1:=p1.below b3;have t2:=p2.below b3;have t3:=p3.below b3);go_roundw;case rel=>exact ⟨j+1,by omega,HT.out,by go_num,x3,vb3,t1,t2,t3⟩
        case measure=>simp[intOf];omega
      obtain rfl:j=k.ds.length:=by omega
      have HT:Hid (bC (kg k) k.ds.length=true):=hto;replace HA1:Hid (∀ a c W,aI W a gq->Calls prog 39 #[.slice a gq.length c] W (aT (.bool (dM gq)) W)):=HA1.out hto;replace HA2:Hid (∀ a c W,aI W a gp->Calls prog 39 #[.slice a gp.length c] W (aT (.bool (dM gp)) W)):=HA2.out hto;have xc:=xr;have ir:=L4;have c0:=xc.arg.c0;have c1:=xc.arg.c1;have c2:=xc.arg.c2;have c3:=xc.arg.c3;clear HL qv hto Wc U4 VC L4 xr;cases ho1:dM gq
      ·rw[ho1] at HA1;have HO:Hid (dM gq=false):=ho1;clear ho1;go_wp2_with (first
        | (go_at_call 41;refine (uy.out _ xc.ah).mono ?_;rintro e w1 ⟨fa,fc,rfl,fr,b1⟩;replace xc:=xc.below b1;replace c0:=xc.arg.c0;replace c1:=xc.arg.c1;replace c2:=xc.arg.c2;replace c3:=xc.arg.c3;replace ir:=ir.below b1)
        | (go_at_call 40;refine (lP.out _ _ _ _ _ ir fr).mono ?_;rintro e w2 ⟨qa,qc,rfl,qr,b2⟩;replace xc:=xc.below b2;replace c0:=xc.arg.c0;replace c1:=xc.arg.c1;replace c2:=xc.arg.c2;replace c3:=xc.arg.c3)
        | (go_at_call 39;refine (HA1.out _ _ _ qr).mono ?_;rintro e w3 ⟨rfl,b3⟩;replace xc:=xc.below b3;replace c0:=xc.arg.c0;replace c1:=xc.arg.c1;replace c2:=xc.arg.c2;replace c3:=xc.arg.c3;clear HA1))
       go_ret;exact ⟨by rw[HT.out,HO.out];rfl,xc.ah⟩
      rw[ho1] at HA1;cases ho2:dM gp
      ·rw[ho2] at HA2;have HO:Hid (dM gq=true/\dM gp=false):=⟨ho1,ho2⟩;clear ho1 ho2;go_wp2_with (first
        | (go_at_call 41;refine (uy.out _ xc.ah).mono ?_;rintro e w1 ⟨fa,fc,rfl,fr,b1⟩;replace xc:=xc.below b1;replace c0:=xc.arg.c0;replace c1:=xc.arg.c1;replace c2:=xc.arg.c2;replace c3:=xc.arg.c3;replace ir:=ir.below b1)
        | (go_at_call 40;refine (lP.out _ _ _ _ _ ir fr).mono ?_;rintro e w2 ⟨qa,qc,rfl,qr,b2⟩;replace xc:=xc.below b2;replace c0:=xc.arg.c0;replace c1:=xc.arg.c1;replace c2:=xc.arg.c2;replace c3:=xc.arg.c3)
        | (go_at_call 39;refine (HA1.out _ _ _ qr).mono ?_;rintro e w3 ⟨rfl,b3⟩;replace xc:=xc.below b3;replace c0:=xc.arg.c0;replace c1:=xc.arg.c1;replace c2:=xc.arg.c2;replace c3:=xc.arg.c3;clear HA1)
        | (go_at_call 42;refine (sZ.out _ xc.ah).mono ?_;rintro e w4 ⟨pa,pc,rfl,pr,b4⟩;replace xc:=xc.below b4;replace c0:=xc.arg.c0;replace c1:=xc.arg.c1;replace c2:=xc.arg.c2;replace c3:=xc.arg.c3)
        | (go_at_call 39;refine (HA2.out _ _ _ pr).mono ?_;rintro e w5 ⟨rfl,b5⟩;replace xc:=xc.below b5;replace c0:=xc.arg.c0;replace c1:=xc.arg.c1;replace c2:=xc.arg.c2;replace c3:=xc.arg.c3))
       go_ret;exact ⟨by rw[HT.out,HO.out.1,HO.out.2];rfl,xc.ah⟩
      rw[ho2] at HA2;have HO:Hid (dM gq=true/\dM gp=true):=⟨ho1,ho2⟩;clear ho1 ho2;go_wp2_with (first
       | (go_at_call 41;refine (uy.out _ xc.ah).mono ?_;rintro e w1 ⟨fa,fc,rfl,fr,b1⟩;replace xc:=xc.below b1;replace c0:=xc.arg.c0;replace c1:=xc.arg.c1;replace c2:=xc.arg.c2;replace c3:=xc.arg.c3;replace ir:=ir.below b1)
       | (go_at_call 40;refine (lP.out _ _ _ _ _ ir fr).mono ?_;rintro e w2 ⟨qa,qc,rfl,qr,b2⟩;replace xc:=xc.below b2;replace c0:=xc.arg.c0;replace c1:=xc.arg.c1;replace c2:=xc.arg.c2;replace c3:=xc.arg.c3)
       | (go_at_call 39;refine (HA1.out _ _ _ qr).mono ?_;rintro e w3 ⟨rfl,b3⟩;replace xc:=xc.below b3;replace c0:=xc.arg.c0;replace c1:=xc.arg.c1;replace c2:=xc.arg.c2;replace c3:=xc.arg.c3;clear HA1)
       | (go_at_call 42;refine (sZ.out _ xc.ah).mono ?_;rintro e w4 ⟨pa,pc,rfl,pr,b4⟩;replace xc:=xc.below b4;replace c0:=xc.arg.c0;replace c1:=xc.arg.c1;replace c2:=xc.arg.c2;replace c3:=xc.arg.c3)
       | (go_at_call 39;refine (HA2.out _ _ _ pr).mono ?_;rintro e w5 ⟨rfl,b5⟩;replace xc:=xc.below b5;replace c0:=xc.arg.c0;replace c1:=xc.arg.c1;replace c2:=xc.arg.c2;replace c3:=xc.arg.c3)
       | (go_at_call 43;refine (MK.out _ xc.ah).mono ?_;rintro e w6 ⟨rfl,b6⟩;replace xc:=xc.below b6;replace c0:=xc.arg.c0;replace c1:=xc.arg.c1;replace c2:=xc.arg.c2;replace c3:=xc.arg.c3))
      go_ret;exact ⟨by rw[HT.out,HO.out.1,HO.out.2];rfl,xc.ah⟩
section
theorem Sh:∀ (fn:Fn) (first cap:Array Value) (w:World),(Instr.makeFunc fn first cap).run prog w=.ok (.func fn first cap) w:=fun _ _ _ _=>rfl
structure xI (w:World) (k:aL) (a:Option Addr) (c:Nat) (W:World):Prop where
 box:av w.heap.size (cU k a c) W
 az:av (w.heap.size+1) gV W
 code:av (w.heap.size+1+1) [.int .i64 0] W
 ah:aj w W
variable {w W W' : World} {k k' : aL} {a : Option Addr} {c : Nat}
theorem xI.below (h:xI w k a c W) (hb:aj W W'):xI w k a c W':=⟨h.box.below hb,h.az.below hb,h.code.below hb,h.ah.trans (hb.mono h.ah.size)⟩
theorem xI.keep {B:Nat} (h:xI w k a c W) (hb:Below B W W') (hB:w.heap.size+3<=B):xI w k a c W':=⟨fQ h.box hb (by omega),fQ h.az hb (by omega),fQ h.code hb (by omega),h.ah.trans (hb.mono (by omega))⟩
abbrev JX:Obj:=.cells #[.int .i64 0] 3
theorem Si (w:World) (k:aL) (a:Option Addr) (c:Nat):xI w k a c (((w.alloc (cJ k a c)).alloc df).alloc JX):=⟨((bu (cU k a c) w 28).alloc _).alloc _,(gH gV _ 28 (by simp)).alloc _,gH [ad 0] _ 3 (by simp),(((aK _ _).alloc (aq _) _).alloc (by simp) _).alloc (by simp;omega) _⟩
theorem JY {lo lo':Nat} {ds:List ak} (h:fS lo a ds W) (hl:lo'<=lo):fS lo' a ds W:=h.imp id fun ⟨g,b,ss,L,e,h1,h2⟩=>⟨g,b,ss,L,e,by omega,h2⟩
structure rf (k:aL):Prop where
 m:k.mem.size<=1048576
 d:k.ay.size<=1048576
 t:k.ds.length+ft k.ds k.ds.length<=1048576
theorem rf.small (h:rf k):xp k.ds:=fun j hj=>by have:=Fe hj;have:=h.t;exact EW (d:=au k.ds j) (by omega)
theorem rf.fits (h:rf k) (ss:Nat->aA):jJ k.ds ss:=fun j hj=>by obtain ⟨z1,z2,z3,z4,z5⟩:=h.small j hj;exact ⟨⟨by omega,by omega,by omega⟩,z2,z3⟩
abbrev JZ (k:aL) (a:Option Addr) (c:Nat):Obj:=.cells #[.int .i32 1,.int .u32 0,.string k.mem,.string k.ay,.slice a k.ds.length c,.int .i64 k.ck] 101
abbrev Sj (k:aL) (a:Option Addr) (c:Nat):Obj:=.cells #[.int .i32 0,.int .u32 0,.string k.mem,.string k.ay,.slice a k.ds.length c,.int .i64 k.ck] 101
def J1 (w:World) (k k':aL) (q:Nat) (agt:Array Value):Prop:=∀ (W:World) (P:Nat) (a':Option Addr) (c':Nat),w.heap.size+3<=P->av P [.int .i32 1,.int .u32 0,.string k.mem,.string k.ay,.slice a' k.ds.length c',.int .i64 k.ck] W->fS (w.heap.size+3) a' k.ds W->aj w W->
 Calls prog q (#[.pointer (some ⟨P,0,none⟩)]++agt) W fun e w'=>e=.returned .nilIface/\(∃ a2 c2,av P [.int .i32 1,.int .u32 0,.string k'.mem,.string k'.ay,.slice a2 k'.ds.length c2,.int .i64 k'.ck] w'/\fS (w.heap.size+3) a2 k'.ds w')/\Below (w.heap.size+3) W w'
theorem adP (k k':aL) (a:Option Addr) (c:Nat) (s0:Nat->aA) (x0:Value) (w:World) (hz:rf k) (hok:fj k=true) (hR:aZ w a k.ds s0) (hds:Hid (k'.ds=[])) (HQ:J1 w k k' 17 #[x0]):Calls prog 63 #[aU k a c,.func (.func 17) #[] #[x0]] w fun e w'=>∃ a2 c2,e=.returned (.tuple #[aU k' a2 c2,ad 0])/\fS (w.heap.size+3) a2 k'.ds w'/\aj w w':=by
 have t0:=Si w k a c;have HL:Hid (∀ W,aj w W->aZ W a k.ds s0):=fun W hb=>hR.below hb;have hk0:=JW k a c s0 _ hz.m hz.d hz.t (hz.fits s0) (HL.out _ t0.ah);rw[hok] at hk0;have HC:Hid (∀ W,aj w W->_):=fun W hb=>Qz k a c s0 W (by have:=hz.m;omega) (by have:=hz.d;omega) (by have:=hz.t;omega) hz.small (HL.out W hb);have UN:Hid (J1 w k k' 17 #[x0]):=HQ;have c0:=t0.box.c0;have c1:=t0.box.c1;have c2:=t0.box.c2;have c3:=t0.box.c3;obtain ⟨W0,hW0⟩:∃ W0,((w.alloc (cJ k a c)).alloc df).alloc JX=W0:=⟨_,rfl⟩;rw[hW0] at t0 hk0 c0 c1 c2 c3;have hm0:=Sh;have z0:=t0.code.lt;clear hR hok HL HQ;go_enter_defers func63,ntmps63
 go_wp2_with (first
  | (go_at_call 10;refine hk0.mono ?_;rintro e w1 ⟨rfl,b1⟩;have t1:=t0.below b1;have c0:=t1.box.c0;have c1:=t1.box.c1;have c2:=t1.box.c2;have c3:=t1.box.c3)
  | (go_at_call 64;refine (HC.out _ t1.ah).mono ?_;rintro e w2 ⟨a2,c2',rfl,o2,b2⟩;have nw:=aB w2 (Sj k a2 c2');have t2:=(t1.below b2).below nw;have p2:=bu [.int .i32 0,.int .u32 0,.string k.mem,.string k.ay,.slice a2 k.ds.length c2',ad k.ck] w2 101;have hb1:=b1.size;have hb2:=b2.size;have o2b:fS (w.heap.size+3) a2 k.ds (w2.alloc (Sj k a2 c2')):=(JY o2 (by omega)).below nw;have l0:=p2.cell 0 (by simp);have UE:=p2.free 0 (by simp);simp only[eQ] at l0)
  | (go_at_call 122;refine (Go.MuLone.lock_free Ph ⟨w2.heap.size,0,none⟩ _ l0 UE).mono ?_;rintro e w4 ⟨rfl,rfl⟩;clear t2 p2 o2b l0 UE nw;have nw:=aB w2 (JZ k a2 c2');have t4:=(t1.below b2).below nw;have p4:=bu [.int .i32 1,.int .u32 0,.string k.mem,.string k.ay,.slice a2 k.ds.length c2',ad k.ck] w2 101;have o4:fS (w.heap.size+3) a2 k.ds (w2.alloc (JZ k a2 c2')):=(JY o2 (by omega)).below nw;have MW:=UN.out (w2.alloc (JZ k a2 c2')) w2.heap.size a2 c2' (by omega) p4 o4 t4.ah;rw[show (#[aD w2.heap.size 0] ++ #[x0]:Array Value)=#[aD w2.heap.size 0,x0] from rfl] at MW)
  | (go_at_call 17;refine MW.mono ?_;rintro e w5 ⟨rfl,⟨a5,c5,p5,o5⟩,b5⟩;have t5:=t4.keep b5 (aq _);have j0:=t5.code.c0;have jf:=t5.code.f0;have y0:=t5.az.c0;have y1:=t5.az.c1;have y2:=t5.az.c2;have y3:=t5.az.c3;have g0:=t5.az.f0;have g1:=t5.az.f1;have g2:=t5.az.f2;have g3:=t5.az.f3)
  | (go_at_call 125;refine (ab3 _).mono ?_;rintro e w6 ⟨rfl,Va⟩;subst w6))
 have hP:w.heap.size+3<=w2.heap.size:=by omega
 have HOS:Hid (∀ W,fS (w.heap.size+3) a5 k'.ds W->fS (w.heap.size+3) a5 k'.ds (W.setCell ⟨w2.heap.size,0,none⟩ (.int .i32 0))):=fun W _=>Or.inl hds.out;have p6:=p5.aR (B':=w.heap.size+1+1) (by omega) 0 (ad 0);have k6:=t5.code.set 0 (ad 0);have n6:=t5.az.aR (B':=w.heap.size+1+1) (by omega) 0 (ad 0);have o6:=o5.set (B:=w.heap.size+1+1) (by omega) 0 (ad 0);have l6:=t5.ah.setCell (p:=⟨w.heap.size+1+1,0,none⟩) (by show w.heap.size<=w.heap.size+1+1;omega) (ad 0);obtain ⟨W6,rG⟩:∃ W6,w5.setCell ⟨w.heap.size+1+1,0,none⟩ (ad 0)=W6:=⟨_,rfl⟩;rw[rG] at p6 k6 n6 o6 l6 ⊢;have v0:=p6.cell 0 (by simp);have v2:=p6.cell 2 (by simp);have v3:=p6.cell 3 (by simp);have v4:=p6.cell 4 (by simp);have v5:=p6.cell 5 (by simp);simp only[eQ,fP] at v0 v2 v3 v4 v5;have q0:=k6.cell 0 (by simp);simp only[jS,eQ] at q0;have qf:=k6.free 0 (by simp);have r0:=n6.c0;have r1:=n6.c1;have r2:=n6.c2;have r3:=n6.c3;have rf0:=n6.f0;have rf1:=n6.f1;have rf2:=n6.f2;have rf3:=n6.f3;clear rG j0 jf y0 y1 y2 y3 g0 g1 g2 g3 c0 c1 c2 c3 hk0 HC UN MW hm0;go_region
 have p7:=(((((p6.aR (B':=w.heap.size+1) (by omega) 0 (.string k'.mem)).aR (B':=w.heap.size+1) (by omega) 1 (.string k'.ay)).aR (B':=w.heap.size+1) (by omega) 2 (.slice a5 k'.ds.length c5)).aR (B':=w.heap.size+1) (by omega) 3 (ad k'.ck)).aR (B':=w.heap.size+1+1) (by omega) 0 (ad 0)).drew;have n7:=((n6.eU (.string k'.mem) (.string k'.ay) (.slice a5 k'.ds.length c5) (ad k'.ck)).aR (B':=w.heap.size+1+1) (by omega) 0 (ad 0)).drew;have k7:=(((((k6.aR (B':=w.heap.size+1) (by omega) 0 (.string k'.mem)).aR (B':=w.heap.size+1) (by omega) 1 (.string k'.ay)).aR (B':=w.heap.size+1) (by omega) 2 (.slice a5 k'.ds.length c5)).aR (B':=w.heap.size+1) (by omega) 3 (ad k'.ck)).set 0 (ad 0)).drew;have o7:=(((((o6.set (B:=w.heap.size+1) (by omega) 0 (.string k'.mem)).set (B:=w.heap.size+1) (by omega) 1 (.string k'.ay)).set (B:=w.heap.size+1) (by omega) 2 (.slice a5 k'.ds.length c5)).set (B:=w.heap.size+1) (by omega) 3 (ad k'.ck)).set (B:=w.heap.size+1+1) (by omega) 0 (ad 0)).below ((aK _ _).drew);have l7:=(((((l6.setCell (p:=⟨w.heap.size+1,0,none⟩) (bP _) (.string k'.mem)).setCell (p:=⟨w.heap.size+1,1,none⟩) (bP _) (.string k'.ay)).setCell (p:=⟨w.heap.size+1,2,none⟩) (bP _) (.slice a5 k'.ds.length c5)).setCell (p:=⟨w.heap.size+1,3,none⟩) (bP _) (ad k'.ck)).setCell (p:=⟨w.heap.size+1+1,0,none⟩) (by show w.heap.size<=w.heap.size+1+1;omega) (ad 0)).drew;clear v0 v2 v3 v4 v5 q0 qf r0 r1 r2 r3 rf0 rf1 rf2 rf3;go_wp2;obtain ⟨W7,yx⟩:∃ W7,(((((W6.setCell ⟨w.heap.size+1,0,none⟩ (.string k'.mem)).setCell ⟨w.heap.size+1,1,none⟩ (.string k'.ay)).setCell ⟨w.heap.size+1,2,none⟩ (.slice a5 k'.ds.length c5)).setCell ⟨w.heap.size+1,3,none⟩ (ad k'.ck)).setCell ⟨w.heap.size+1+1,0,none⟩ (ad 0)).drew=W7:=⟨_,rfl⟩;rw[yx] at p7 n7 k7 o7 l7 ⊢;have u0:=p7.cell 0 (by simp);have uf:=p7.free 0 (by simp);simp only[eQ] at u0;have n8:=n7.aR (B':=w2.heap.size) (by omega) 0 (.int .i32 0);have k8:=k7.aR (B':=w2.heap.size) (by omega) 0 (.int .i32 0);have o8:fS (w.heap.size+3) a5 k'.ds (W7.setCell ⟨w2.heap.size,0,none⟩ (.int .i32 0)):=HOS.out W7 o7;have l8:=l7.setCell (p:=⟨w2.heap.size,0,none⟩) (by show w.heap.size<=w2.heap.size;omega) (.int .i32 0)
 refine leaves_cons (f:=124) (args:=#[aD w.heap.size 0,aD (w.heap.size+1) 0,aD (w.heap.size+1+1) 0]) (by simp) (by simp[go_sem]) ?_;refine (ab2 _ _ _ _).mono ?_;rintro e u' w'' ⟨rfl,rfl,rfl⟩;refine leaves_cons (f:=123) (args:=#[aD w2.heap.size 0]) (by simp[settle]) (by simp[go_sem]) ?_;refine (Go.MuLone.unlock_deferred Ph ⟨w2.heap.size,0,none⟩ _ _ u0 uf).mono ?_;rintro e u' w'' ⟨rfl,rfl,rfl⟩;have v0:=n8.c0;have v1:=n8.c1;have v2:=n8.c2;have v3:=n8.c3;have v4:=k8.cell 0 (by simp);simp only[jS,eQ] at v4;simp[Leaves,settle,results,results63,go_sem,v0,v1,v2,v3,v4];exact ⟨o8,l8⟩
end
theorem adQ (k:aL) (a:Option Addr) (c:Nat) (s0:Nat->aA) (q:Value) (w:World) (hz:rf k) (hok:fj k=false) (hR:aZ w a k.ds s0):Calls prog 63 #[aU k a c,q] w fun e w'=>e=.returned (.tuple #[.agg #[.string ⟨#[]⟩,.string ⟨#[]⟩,.slice none 0 0,.int .i64 0],.int .i64 6])/\Below w.heap.size w w':=by
 have t0:=Si w k a c;have HL:Hid (∀ W,Below w.heap.size w W->aZ W a k.ds s0):=fun W hb=>hR.below hb;have hk0:=JW k a c s0 _ hz.m hz.d hz.t (hz.fits s0) (HL.out _ t0.ah);rw[hok] at hk0;have c0:=t0.box.c0;have c1:=t0.box.c1;have c2:=t0.box.c2;have c3:=t0.box.c3;obtain ⟨W0,hW0⟩:∃ W0,((w.alloc (cJ k a c)).alloc df).alloc JX=W0:=⟨_,rfl⟩;rw[hW0] at t0 hk0 c0 c1 c2 c3;clear hR hok HL;go_enter_defers func63,ntmps63
 go_wp2_with (go_at_call 10;refine hk0.mono ?_;rintro e w1 ⟨rfl,b1⟩;have t1:=t0.below b1;have y0:=t1.az.c0;have y1:=t1.az.c1;have y2:=t1.az.c2;have y3:=t1.az.c3;have g0:=t1.az.f0;have g1:=t1.az.f1;have g2:=t1.az.f2;have g3:=t1.az.f3;have j0:=t1.code.c0;have jf:=t1.code.f0);have n2:=(t1.az.eU (.string ⟨#[]⟩) (.string ⟨#[]⟩) (.slice none 0 0) (.int .i64 0)).aR (B':=w.heap.size+1+1) (by omega) 0 (.int .i64 6);have k2:=((((t1.code.aR (B':=w.heap.size+1) (by omega) 0 (.string ⟨#[]⟩)).aR (B':=w.heap.size+1) (by omega) 1 (.string ⟨#[]⟩)).aR (B':=w.heap.size+1) (by omega) 2 (.slice none 0 0)).aR (B':=w.heap.size+1) (by omega) 3 (.int .i64 0)).set 0 (.int .i64 6);have l2:=((((t1.ah.setCell (p:=⟨w.heap.size+1,0,none⟩) (bP _) (.string ⟨#[]⟩)).setCell (p:=⟨w.heap.size+1,1,none⟩) (bP _) (.string ⟨#[]⟩)).setCell (p:=⟨w.heap.size+1,2,none⟩) (bP _) (.slice none 0 0)).setCell (p:=⟨w.heap.size+1,3,none⟩) (bP _) (.int .i64 0)).setCell (p:=⟨w.heap.size+1+1,0,none⟩) (by show w.heap.size<=w.heap.size+1+1;omega) (.int .i64 6);have v0:=n2.c0;have v1:=n2.c1;have v2:=n2.c2;have v3:=n2.c3;have v4:=k2.cell 0 (by simp);simp only[jS,eQ] at v4;obtain ⟨W2,hW2⟩:∃ W2,((((w1.setCell ⟨w.heap.size+1,0,none⟩ (.string ⟨#[]⟩)).setCell ⟨w.heap.size+1,1,none⟩ (.string ⟨#[]⟩)).setCell ⟨w.heap.size+1,2,none⟩ (.slice none 0 0)).setCell ⟨w.heap.size+1,3,none⟩ (.int .i64 0)).setCell ⟨w.heap.size+1+1,0,none⟩ (.int .i64 6)=W2:=⟨_,rfl⟩;rw[hW2] at v0 v1 v2 v3 v4 l2 ⊢;clear c0 c1 c2 c3 y0 y1 y2 y3 g0 g1 g2 g3 j0 jf hk0 n2 k2 hW2;simp[bodyPostD,Leaves,settle,results,results63,go_sem,v0,v1,v2,v3,v4];exact l2
structure zY (w:World) (k:aL) (a:Option Addr) (c:Nat) (W:World):Prop where
 box:av w.heap.size (cU k a c) W
 az:av (w.heap.size+1) gV W
 ah:aj w W
theorem zY.below {w W W':World} {k:aL} {a:Option Addr} {c:Nat} (h:zY w k a c W) (hb:aj W W'):zY w k a c W':=⟨h.box.below hb,h.az.below hb,h.ah.trans (hb.mono h.ah.size)⟩
theorem tX (w:World) (k:aL) (a:Option Addr) (c:Nat):zY w k a c ((w.alloc (cJ k a c)).alloc df):=⟨(bu (cU k a c) w 28).alloc _,gH gV _ 28 (by simp),((aK _ _).alloc (aq _) _).alloc (by simp) _⟩
theorem adR {lo lo':Nat} {a:Option Addr} {ds:List ak} {W:World} (h:fS lo a ds W) (hl:lo'<=lo):fS lo' a ds W:=JY h hl
theorem J2 {A lo lo':Nat} {x0 x1 x2 x3:Value} {w W:World} (k:aL) (a:Option Addr) (c:Nat) (h:av A [x0,x1,x2,x3] W) (ho:fS lo a k.ds W) (hA:A<lo) (hl:lo'<=lo) (hb:Below lo' w W) (hA':lo'<=A):let V:=(((W.setCell ⟨A,0,none⟩ (.string k.mem)).setCell ⟨A,1,none⟩ (.string k.ay)).setCell ⟨A,2,none⟩ (.slice a k.ds.length c)).setCell ⟨A,3,none⟩ (ad k.ck)
  av A (cU k a c) V/\fS lo' a k.ds V/\Below lo' w V:=
 ⟨h.eU _ _ _ _,adR ((((ho.set hA 0 _).set hA 1 _).set hA 2 _).set hA 3 _) hl,(((hb.setCell (p:=⟨A,0,none⟩) hA' _).setCell (p:=⟨A,1,none⟩) hA' _).setCell (p:=⟨A,2,none⟩) hA' _).setCell (p:=⟨A,3,none⟩) hA' _⟩
theorem adS (k k':aL) (a:Option Addr) (c:Nat) (q:Value) (w:World) (HA:∀ W,aj w W->w.heap.size+2<=W.heap.size->Calls prog 63 #[aU k a c,q] W fun e w'=>∃ a2 c2,e=.returned (.tuple #[aU k' a2 c2,ad 0])/\fS (W.heap.size+3) a2 k'.ds w'/\aj W w'):Calls prog 16 #[aU k a c,q] w (pX k' w):=by
 have t0:=tX w k a c;have hq:=HA _ t0.ah (by simp);have c0:=t0.box.c0;have c1:=t0.box.c1;have c2:=t0.box.c2;have c3:=t0.box.c3;have z0:w.heap.size+2=((w.alloc (cJ k a c)).alloc df).heap.size:=by simp
 obtain ⟨W0,hW0⟩:∃ W0,(w.alloc (cJ k a c)).alloc df=W0:=⟨_,rfl⟩;rw[hW0] at t0 hq c0 c1 c2 c3 z0;clear HA;unfold pX;go_enter func16,ntmps16;go_wp2_with (go_at_call 63;refine hq.mono ?_;rintro e w1 ⟨a2,c2',rfl,o1,b1⟩;have nw:=aB w1 (.cells #[.string k'.mem,.string k'.ay,.slice a2 k'.ds.length c2',ad k'.ck] 28);have p1:=bu (cU k' a2 c2') w1 28;have t1:=(t0.below b1).below nw;have o2:fS (W0.heap.size+3) a2 k'.ds (w1.alloc (.cells #[.string k'.mem,.string k'.ay,.slice a2 k'.ds.length c2',ad k'.ck] 28)):=o1.below nw;have y0:=t1.az.c0;have y1:=t1.az.c1;have y2:=t1.az.c2;have y3:=t1.az.c3;have g0:=t1.az.f0;have g1:=t1.az.f1;have g2:=t1.az.f2;have g3:=t1.az.f3;have x0:=p1.c0;have x1:=p1.c1;have x2:=p1.c2;have x3:=p1.c3);obtain ⟨q1,q2,q3⟩:=J2 k' a2 c2' t1.az o2 (A:=w.heap.size+1) (lo':=w.heap.size) (by omega) (by omega) t1.ah (bP _);have v0:=q1.c0;have v1:=q1.c1;have v2:=q1.c2;have v3:=q1.c3;exact bL (v:=aU k' a2 c2') (by simp[results,results16,go_sem,v0,v1,v2,v3]) rfl ⟨a2,c2',rfl,q2,q3⟩
abbrev adT:Obj:=.cells #[.string ⟨#[]⟩,.string ⟨#[]⟩,.slice none 0 0,.int .i64 0] 28
theorem adU (k:aL) (a:Option Addr) (c:Nat) (q:Value) (w:World) (HA:∀ W,aj w W->Calls prog 63 #[aU k a c,q] W (aT (.tuple #[.agg #[.string ⟨#[]⟩,.string ⟨#[]⟩,.slice none 0 0,ad 0],ad 6]) W)) (HC:∀ W,aj w W->Calls prog 64 #[aU k a c] W (pX k W)):Calls prog 16 #[aU k a c,q] w (pX k w):=by
 have t0:=tX w k a c;have hq:=HA _ t0.ah;have HC':Hid (∀ W,aj w W->Calls prog 64 #[aU k a c] W (pX k W)):=HC;have c0:=t0.box.c0;have c1:=t0.box.c1;have c2:=t0.box.c2;have c3:=t0.box.c3;have z0:w.heap.size+2=((w.alloc (cJ k a c)).alloc df).heap.size:=by simp
 obtain ⟨W0,hW0⟩:∃ W0,(w.alloc (cJ k a c)).alloc df=W0:=⟨_,rfl⟩;rw[hW0] at t0 hq c0 c1 c2 c3 z0;clear HA HC;unfold pX;go_enter func16,ntmps16;go_wp2_with (first
  | (go_at_call 63;refine hq.mono ?_;rintro e w1 ⟨rfl,b1⟩;have nw:=aB w1 adT;have t1:=(t0.below b1).below nw;have s1:=b1.size;have n1:=nw.size;have c0:=t1.box.c0;have c1:=t1.box.c1;have c2:=t1.box.c2;have c3:=t1.box.c3)
  | (go_at_call 64;refine (HC'.out _ t1.ah).mono ?_;rintro e w2 ⟨a2,c2',rfl,o2,b2⟩;have t2:=t1.below b2;have y0:=t2.az.c0;have y1:=t2.az.c1;have y2:=t2.az.c2;have y3:=t2.az.c3;have g0:=t2.az.f0;have g1:=t2.az.f1;have g2:=t2.az.f2;have g3:=t2.az.f3))
 obtain ⟨q1,q2,q3⟩:=J2 k a2 c2' t2.az o2 (A:=w.heap.size+1) (lo':=w.heap.size) (by omega) (by omega) t2.ah (bP _);have v0:=q1.c0;have v1:=q1.c1;have v2:=q1.c2;have v3:=q1.c3;exact bL (v:=aU k a2 c2') (by simp[results,results16,go_sem,v0,v1,v2,v3]) rfl ⟨a2,c2',rfl,q2,q3⟩
theorem Sk {i:Int} (h0:0<=i) (h1:i<=768):(Lit.int .i64 i).wf=true:=by
 have e1:IntKind.i64.min = -9223372036854775808:=by decide +kernel
 have e2:IntKind.i64.max=9223372036854775807:=by decide +kernel
 simp[Lit.wf,e1,e2];omega
theorem adV (a b:ByteArray) (i n:Int) (w:World) (ha:a.size=768) (hb:b.size=768) (hi:0<=i) (hn:1<=n) (hin:i+n<=768):Calls prog 77 #[.agg #[.string a,.string b],ad i,ad n] w (aT (.agg #[.string a,.string (kN a b (i,n))]) w):=by
 have h:=I8 a b i n w (by omega) (by omega) (Sk hi (by omega)) (Sk (by omega) (by omega));have e:mf a b i n=kN a b (i,n):=by unfold mf;rw[aF (by unfold vk;rw[za ha hb,ha];simp[cZ];omega)];rfl
 rw[e] at h;exact h
theorem Sn (a b:ByteArray) (d:ak) (s:aA) (w:World) (ha:a.size=768) (hb:b.size=768) (hF:jX d s) (hpo:d.po.length<=1048576) (hfr:d.fr.length<=1048576) (hR:dq w d s):Calls prog 23 #[.agg #[.string a,.string b],bH d s] w (aT (.agg #[.string a,.string (dG a b (aJ d) (aJ d).length)]) w):=by
 have dv:=bu [.string a,.string b] w 25;have m0:=aB w (.cells #[.string a,.string b] 25);have e1:(w.alloc (.cells #[.string a,.string b] 25)).heap.size=w.heap.size+1:=by simp
 have m1:=aB (w.alloc (.cells #[.string a,.string b] 25)) (.cells (dZ d s) 49);have lb:=lf d s (w.alloc (.cells #[.string a,.string b] 25)) 49;have e2:((w.alloc (.cells #[.string a,.string b] 25)).alloc (.cells (dZ d s) 49)).heap.size=w.heap.size+2:=by simp
 have m2:=aB ((w.alloc (.cells #[.string a,.string b] 25)).alloc (.cells (dZ d s) 49)) (.cells #[.string ⟨#[]⟩,.string ⟨#[]⟩] 25);have rs:=bu [.string ⟨#[]⟩,.string ⟨#[]⟩] ((w.alloc (.cells #[.string a,.string b] 25)).alloc (.cells (dZ d s) 49)) 25;have Du:=(dv.below m1).below m2;have jw:=lb.below m2;have M3:=(m0.trans (m1.mono m0.size)).trans (m2.mono (bt m0.size m1.size));rw[e1] at jw;rw[e2] at rs;have L3:=hR.below M3;have c0:=jw.c0;have c1:=jw.c1;have c2:=jw.c2;have c3:=jw.c3;have c4:=jw.c4;have c5:=jw.c5;have c6:=jw.c6;have c7:=jw.c7;have hrg:Hid (∀ W,dq W d s->_):=fun W h=>FF d s W hF hpo hfr h;have hlt3:w.heap.size+2<(((w.alloc (.cells #[.string a,.string b] 25)).alloc (.cells (dZ d s) 49)).alloc (.cells #[.string ⟨#[]⟩,.string ⟨#[]⟩] 25)).heap.size:=rs.lt;have hnr:(aJ d).length=kL d:=Cl d;obtain ⟨n,hn⟩:∃ n,(aJ d).length=n:=⟨_,rfl⟩;rw[hn] at hnr;rw[hn];have VK:n<=13:=by rw[<- hn];exact Cm d
 have HN:Hid ((aJ d).length=n):=hn;clear dv m0 m1 lb m2 e1 e2 hR hF hn;go_enter func23,ntmps23;go_wp2_with (go_at_call 76;refine (hrg.out _ L3).mono ?_;rintro e w4 ⟨a4,uC,rfl,hq4,hc4,o4,b4⟩;have M4:=M3.trans (b4.mono M3.size);have DN:=Du.below b4;have DE:=rs.below b4;have r4:=FK o4);rw[<- hnr] at *;clear c0 c1 c2 c3 c4 c5 c6 c7 Du jw rs M3 L3 b4 o4 hrg hq4 hc4;have Dd:w.heap.size+3<=((((w.alloc (.cells #[.string a,.string b] 25)).alloc (.cells (dZ d s) 49)).alloc (.cells #[.string ⟨#[]⟩,.string ⟨#[]⟩] 25))).heap.size:=hlt3;have wj:aJ d=[]\/∃ G,a4=some ⟨G,0,none⟩/\w.heap.size+3<=G/\av G (bU (fU d)) w4:=r4.imp id fun ⟨G,h1,h2,h3⟩=>⟨G,h1,bt Dd h2,h3⟩;clear r4 hlt3 Dd;go_loopw [6] (fun i w'=>∃ k:Nat,k<=n/\i=ad k/\av w.heap.size [.string a,.string (dG a b (aJ d) k)] w'/\av (w.heap.size+2) [.string ⟨#[]⟩,.string ⟨#[]⟩] w'/\(aJ d=[]\/∃ G,a4=some ⟨G,0,none⟩/\w.heap.size+3<=G/\av G (bU (fU d)) w')/\aj w w') (fun i _=>n-(intOf i).toNat);case atStart=>exact ⟨0,aS _,rfl,DN,DE,wj,M4⟩
 case round=>
 obtain ⟨k,hk,rfl,jg,oQ,rk,hbel⟩:=hrel;clear DN DE wj M4;by_cases hlt:k<n
 ·obtain ⟨G,rfl,hG,kG⟩:∃ G,a4=some ⟨G,0,none⟩/\w.heap.size+3<=G/\av G (bU (fU d)) wr:=by
   rcases rk with h0 | h0
   ·rw[h0] at HN;have:=HN.out;simp at this;omega
   exact h0
  have hkl:k<(aJ d).length:=by have:=HN.out;omega
  obtain ⟨y1,y2⟩:=zL kG hkl;obtain ⟨i1,i2,i3⟩:=FJ d hkl;have hsz:=Cv a b (aJ d) hb k;have hu:dG a b (aJ d) (k+1)=kN a (dG a b (aJ d) k) (ek (aJ d) k):=rfl;obtain ⟨r,er⟩:∃ r,ek (aJ d) k=r:=⟨_,rfl⟩;rw[er] at y1 y2 i1 i2 i3 hu;obtain ⟨u,v⟩:=r;simp only at y1 y2 i1 i2 i3;obtain ⟨cur,ec⟩:∃ cur,dG a b (aJ d) k=cur:=⟨_,rfl⟩;rw[ec] at jg hsz hu;have HU:Hid (dG a b (aJ d) (k+1)=kN a cur (u,v)):=hu;have hfl:Hid (∀ W,_):=fun W=>adV a cur u v W ha hsz i1 (by omega) i3;have x1:(0:Int)<=(k:Int):=by omega
  have x2:(k:Int)<(n:Int):=by omega
  have d0:=jg.c0;have d1:=jg.c1;clear er ec hu rk hb;go_wp2;go_region_with (go_at_call 77;refine (hfl.out _).mono ?_;rintro e w5 ⟨rfl,b5⟩;have fX:=jg.drew.below b5;have L9:=oQ.drew.below b5;have k5:=kG.drew.below b5;have M5:=hbel.drew.trans (b5.mono hbel.drew.size);have f0:=fX.c0;have f1:=fX.c1;have g0:=fX.f0;have g1:=fX.f1)
  all_goals
   go_wp2;have q5:=fX.rO (.string a) (.string (kN a cur (u,v)));have Mo:=(L9.aR (B':=w.heap.size) (by omega) 0 (.string a)).aR (B':=w.heap.size) (by omega) 1 (.string (kN a cur (u,v)));have k6:=(k5.aR (B':=w.heap.size) (by omega) 0 (.string a)).aR (B':=w.heap.size) (by omega) 1 (.string (kN a cur (u,v)));have M6:=(M5.setCell (p:=⟨w.heap.size,0,none⟩) (aq _) (.string a)).setCell (p:=⟨w.heap.size,1,none⟩) (aq _) (.string (kN a cur (u,v)));go_roundw;case rel=>exact ⟨k+1,by omega,by go_num,by rw[HU.out];exact q5,Mo,Or.inr ⟨G,rfl,hG,k6⟩,M6⟩
   case measure=>simp[intOf];omega
 obtain rfl:k=n:=by omega
 have d0:=jg.c0;have d1:=jg.c1;have f0:=oQ.c0;have f1:=oQ.c1;have g0:=oQ.f0;have g1:=oQ.f1;have q:=oQ.rO (.string a) (.string (dG a b (aJ d) k));have MF:=(hbel.setCell (p:=⟨w.heap.size+2,0,none⟩) (sh _ 2) (.string a)).setCell (p:=⟨w.heap.size+2,1,none⟩) (sh _ 2) (.string (dG a b (aJ d) k));clear rk;go_wp2;exact bL (v:=.agg #[.string a,.string (dG a b (aJ d) k)]) (by simp[results,results23,go_sem,q.c0,q.c1]) rfl ⟨rfl,MF⟩
end Go.Proofs.YtidmmopnkjbjoaaGreatDoor
