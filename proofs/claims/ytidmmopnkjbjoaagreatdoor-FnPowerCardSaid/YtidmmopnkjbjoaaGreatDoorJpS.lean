/- Joined texts. -/
import Derived.Test.YtidmmopnkjbjoaaGreatDoorJpQ
set_option linter.unusedVariables false
set_option linter.unusedSimpArgs false
set_option maxRecDepth 10000
set_option maxHeartbeats 16000000
namespace Go.Proofs.YtidmmopnkjbjoaaGreatDoor
open ChangeShapes WideShapes ChangeAt RowKit
open Go.Proofs.Tryz
section
def jc (d:ak) (m:ByteArray):Nat->ByteArray
 | 0=>m
 | k+1=>bJ (jc d m k) (d.pg.getD k 0*32) (aO d.aH ((k:Int)*32) 32)
def kJ (d:ak) (m:ByteArray):Nat->ByteArray
 | 0=>m
 | k+1=>bJ (kJ d m k) (bA (d.fr.getD k 0)) (bB 16)
def vE (mem:ByteArray) (d:ak):ByteArray:=kJ d (jc d (bJ mem (bA d.ino) d.rc) d.pg.length) d.fr.length
def dy (mem:ByteArray) (d:ak):ByteArray:=if bT d=true/\mem.size=768 then vE mem d else mem
theorem oA (s:ByteArray) (i:Int) (t:ByteArray):(bJ s i t).size=s.size:=by
 unfold bJ;split
 ·rename_i h;obtain ⟨h1,h2,h3⟩:=si h;simp only[fk,lU];omega
 rfl
theorem FA (d:ak) (m:ByteArray):∀ k,(jc d m k).size=m.size
 | 0=>rfl
 | k+1=>by rw[jc,oA,FA d m k]
theorem FC (d:ak) (m:ByteArray):∀ k,(kJ d m k).size=m.size
 | 0=>rfl
 | k+1=>by rw[kJ,oA,FC d m k]
theorem Q9:(bB 16).size<=281474976710656:=by
 unfold bB;split;·rw[ni];decide
 exact aS _
structure jI (w:World) (d:ak) (s:aA) (W:World):Prop where
 arg:fL w.heap.size d s W
 ah:aj w W
variable {w W W' : World} {d : ak} {s : aA}
theorem jI.below (h:jI w d s W) (hb:aj W W'):jI w d s W':=⟨h.arg.below hb,h.ah.trans (hb.mono h.ah.size)⟩
theorem jI.drewN (h:jI w d s W) (m:Nat):jI w d s (W.drewN m):=⟨⟨h.arg.b.drewN m⟩,cL h.ah m⟩
theorem zJ (w:World) (d:ak) (s:aA):jI w d s (QS w d s):=⟨lf d s w 49,aB _ _⟩
theorem Ra (mem:ByteArray) (k:Nat) (w:World) (hs:mem.size<=281474976710656) (hk:k<=100):Calls prog 74 #[.string mem,ad (k:Int)] w (dp (.string (aO mem ((k:Int)*32) 32)) w):=by
 have hm:mem.size<=maxLen:=by unfold maxLen;omega
 have hw:IntKind.i64.wrap ((k:Int)*32)=(k:Int)*32:=by rw[se];omega
 have hpt:=np mem ((k:Int)*32) 32 w hm (Jp _ (by omega) (by omega)) (by decide);go_enter func74,ntmps74;go_wp2_with (go_at_call 78;refine hpt.mono ?_;rintro e w' ⟨rfl,rfl⟩);go_ret;exact ⟨rfl,rfl⟩
theorem Rc (mem:ByteArray) (d:ak) (s:aA) (w:World) (hms:mem.size<=281474976710656) (hF:jX d s) (hpo:d.po.length<=1048576) (hfr:d.fr.length<=1048576) (hR:dq w d s):Calls prog 51 #[.string mem,bH d s] w (aT (.string (dy mem d)) w):=by
 have x0:=zJ w d s;have HL:Hid (∀ W,aj w W->dq W d s):=fun W hb=>hR.below hb;have HO:Hid (∀ W,aj w W->_):=fun W hb=>Jo d s W hF hpo hfr (hR.below hb);have hrs:=hF.m4;have hss:=hF.m5;clear hR hF;cases hok:bT d with
 | false=>
  rw[hok] at HO;have HU:Hid (dy mem d=mem):=by
   show dy mem d=mem
   rw[dy,aG];rintro ⟨h,_⟩;rw[hok] at h;cases h
  rw[HU.out];clear HU hok;go_enter func51,ntmps51;go_wp2_with (first
   | (go_at_call 89;refine (HO.out _ x0.ah).mono ?_;rintro e w1 ⟨rfl,b1⟩;have x1:=x0.below b1)
   | (go_at_call 50;refine (yS _ _ hms).mono ?_;rintro e w2 ⟨rfl,b2⟩;have x2:=x1.below b2))
  go_ret;exact ⟨rfl,x2.ah⟩
 | true=>
  rw[hok] at HO;by_cases hm:mem.size=768
  ·have g8:((mem.size:Int) != 768)=false:=by simp;omega
   have HU:Hid (dy mem d=vE mem d):=by
    show dy mem d=_
    rw[dy,aF ⟨hok,hm⟩]
   obtain ⟨-,-,-,-,-,-,te,-,hf2,eZ,-,-,-⟩:=iO hok;have fN:∀ j,j<d.pg.length->5<=d.pg.getD j 0/\d.pg.getD j 0<=23:=fun j hj=>(mJ.1 eZ).1 _ (gP.2 (Or.inl (kz hj)));rw[HU.out];have Ml:(bJ mem (bA d.ino) d.rc).size=768:=by rw[oA];exact hm
   have HE:Hid (vE mem d=kJ d (jc d (bJ mem (bA d.ino) d.rc) d.pg.length) d.fr.length):=rfl;have hW:Hid (∀ W,Calls prog 97 #[.string mem,ad (bA d.ino),.string d.rc] W (aT (.string (bJ mem (bA d.ino) d.rc)) W)):=fun W=>yQ _ _ _ _ hms hrs;obtain ⟨m1,hm1⟩:∃ m1,bJ mem (bA d.ino) d.rc=m1:=⟨_,rfl⟩;rw[hm1] at Ml HE hW;rw[HE.out];clear HU HE hok hm1 eZ;go_enter func51,ntmps51;go_wp2_with (go_at_call 89;refine (HO.out _ x0.ah).mono ?_;rintro e w1 ⟨rfl,b1⟩;have x1:=x0.below b1);have x2:=x1.below (W':=w1.drew) ((aK _ _).drew);have c0:=x2.arg.c0;have c3:=x2.arg.c3;have s2:w1.drew.cell? ⟨w.heap.size,0,none⟩=some (ad d.ino)/\w1.drew.cell? ⟨w.heap.size,3,none⟩=some (.string d.rc):=⟨c0,c3⟩;go_region_held3 (fun W=>af W w.heap.size 0 (ad d.ino)/\af W w.heap.size 3 (.string d.rc)) (assumption) ((first
    | (go_at_call 91;refine (su _ _).mono ?_;rintro e w' ⟨rfl,rfl⟩)
    | (go_at_call 97;refine (hW.out _).mono ?_;rintro e w3 ⟨rfl,b3⟩;have x3:=x2.below b3;have s3:af w3 w.heap.size 0 (ad d.ino)/\af w3 w.heap.size 3 (.string d.rc):=⟨x3.arg.c0,x3.arg.c3⟩)))
   have c4:=x3.arg.c4;clear s3 s2 c0 c3 x2 x1 b1 b3 x0;go_wp2;go_loopw [0,29] (fun v i w'=>∃ k:Nat,k<=d.pg.length/\i=ad k/\v=.string (jc d m1 k)/\jI w d s w') (fun _ i _=>d.pg.length-(intOf i).toNat);case atStart=>exact ⟨0,aS _,rfl,rfl,x3⟩
   case round=>
   obtain ⟨k,hk,rfl,rfl,xr⟩:=hrel;have jz:=FA d m1 k;by_cases hlt:k<d.pg.length
   ·obtain ⟨b,off,hab,_,hcell⟩:=(HL.out _ xr.ah).r1.get hlt;have y1:=hcell k hlt;have hz:=fN k hlt;have HS:Hid (bJ (jc d m1 k) (d.pg.getD k 0*32) (aO d.aH ((k:Int)*32) 32)=jc d m1 (k+1)):=rfl;obtain ⟨z,ez⟩:∃ z,d.pg.getD k 0=z:=⟨_,rfl⟩;rw[ez] at y1 hz HS;rw[hab];have c5:=xr.arg.c5;have e1:(0:Int)<=(k:Int):=by omega
    have e2:(k:Int)<(d.pg.length:Int):=by omega
    have hpt:Hid (∀ W,Calls prog 90 #[.string d.aH,ad ((k:Int)*32),ad 32] W (aT (.string (aO d.aH ((k:Int)*32) 32)) W)):=fun W=>sn _ _ _ _ hss;have hwt:Hid (∀ W,Calls prog 97 #[.string (jc d m1 k),ad (z*32),.string (aO d.aH ((k:Int)*32) 32)] W (aT (.string (bJ (jc d m1 k) (z*32) (aO d.aH ((k:Int)*32) 32))) W)):=fun W=>yQ _ _ _ _ (by rw[jz];omega) (bt (nn _ _ _) hss);clear ez hcell jz;go_wp2_with (first
     | (go_at_call 90;refine (hpt.out _).mono ?_;rintro e w4 ⟨rfl,b4⟩;have x4:=xr.below b4)
     | (go_at_call 97;refine (hwt.out _).mono ?_;rintro e w5 ⟨rfl,b5⟩;have x5:=x4.below b5))
    go_roundw;case rel=>exact ⟨k+1,by omega,by go_num,by rw[HS.out],x5⟩
    case measure=>simp[intOf];omega
   obtain rfl:k=d.pg.length:=by omega
   have c7:=xr.arg.c7;obtain ⟨m2,hm2⟩:∃ m2,jc d m1 d.pg.length=m2:=⟨_,rfl⟩;have L5:Hid (jc d m1 d.pg.length=m2):=hm2;rw[hm2] at jz ⊢;clear hm2 x3;go_wp2;go_loopw [0,47] (fun v i w'=>∃ k:Nat,k<=d.fr.length/\i=ad k/\v=.string (kJ d m2 k)/\jI w d s w') (fun _ i _=>d.fr.length-(intOf i).toNat);case atStart=>exact ⟨0,aS _,rfl,rfl,xr⟩
   case round=>
   rename_i wr2;obtain ⟨j,hj,rfl,rfl,xq⟩:=hrel;have hvs:=FC d m2 j;by_cases hlt2:j<d.fr.length
   ·obtain ⟨b,off,hab,_,hcell⟩:=(HL.out _ xq.ah).r3.get hlt2;have y1:=hcell j hlt2;have HS:Hid (bJ (kJ d m2 j) (bA (d.fr.getD j 0)) (bB 16)=kJ d m2 (j+1)):=rfl;obtain ⟨z,ez⟩:∃ z,d.fr.getD j 0=z:=⟨_,rfl⟩;rw[ez] at y1 HS;rw[hab];have e1:(0:Int)<=(j:Int):=by omega
    have e2:(j:Int)<(d.fr.length:Int):=by omega
    have hwt:Hid (∀ W,Calls prog 97 #[.string (kJ d m2 j),ad (bA z),.string (bB 16)] W (aT (.string (bJ (kJ d m2 j) (bA z) (bB 16))) W)):=fun W=>yQ _ _ _ _ (by rw[hvs];omega) Q9;clear ez hcell hvs;go_wp2_with (first
     | (go_at_call 91;refine (su _ _).mono ?_;rintro e w' ⟨rfl,rfl⟩)
     | (go_at_call 98;refine (Bf _ _).mono ?_;rintro e w6 ⟨rfl,b6⟩;have x6:=xq.below b6)
     | (go_at_call 97;refine (hwt.out _).mono ?_;rintro e w7 ⟨rfl,b7⟩;have x7:=x6.below b7))
    go_roundw;case rel=>exact ⟨j+1,by omega,by go_num,by rw[HS.out],x7⟩
    case measure=>simp[intOf];omega
   obtain rfl:j=d.fr.length:=by omega
   go_wp2;go_ret;exact ⟨by rw[L5.out];rfl,xq.ah⟩
  ·have g8:((mem.size:Int) != 768)=true:=by simp;omega
   have HU:Hid (dy mem d=mem):=by
    show dy mem d=mem
    rw[dy,aG];rintro ⟨_,h⟩;exact hm h
   rw[HU.out];clear HU hok hm;go_enter func51,ntmps51;go_wp2_with (first
    | (go_at_call 89;refine (HO.out _ x0.ah).mono ?_;rintro e w1 ⟨rfl,b1⟩;have x1:=x0.below b1)
    | (go_at_call 50;refine (yS _ _ hms).mono ?_;rintro e w2 ⟨rfl,b2⟩;have x2:=x1.below b2))
   go_ret;exact ⟨rfl,x2.ah⟩
end
theorem JB (mem:ByteArray) (d:ak) (s:aA) (w:World) (hms:mem.size<=281474976710656) (hF:jX d s) (hpo:d.po.length<=1048576) (hfr:d.fr.length<=1048576) (hR:dq w d s):Calls prog 22 #[.string mem,bH d s] w (aT (.string (dy mem d)) w):=by
 have x0:=zJ w d s;have HL:Hid (∀ W,aj w W->dq W d s):=fun W hb=>hR.below hb;have HO:Hid (∀ W,aj w W->_):=fun W hb=>Fu d s W hF hpo hfr (hR.below hb);have hrs:=hF.m4;have hss:=hF.m5;clear hR hF;cases hok:bT d with
 | false=>
  rw[hok] at HO;have HU:Hid (dy mem d=mem):=by
   show dy mem d=mem
   rw[dy,aG];rintro ⟨h,_⟩;rw[hok] at h;cases h
  rw[HU.out];clear HU hok;go_enter func22,ntmps22;go_wp2_with (go_at_call 72;refine (HO.out _ x0.ah).mono ?_;rintro e w1 ⟨rfl,b1⟩;have x1:=x0.below b1);go_ret;exact ⟨rfl,x1.ah⟩
 | true=>
  rw[hok] at HO;by_cases hm:mem.size=768
  ·have g8:((mem.size:Int) != 768)=false:=by simp;omega
   have HU:Hid (dy mem d=vE mem d):=by
    show dy mem d=_
    rw[dy,aF ⟨hok,hm⟩]
   obtain ⟨-,-,-,-,-,-,te,-,hf2,eZ,-,-,-⟩:=iO hok;have fN:∀ j,j<d.pg.length->5<=d.pg.getD j 0/\d.pg.getD j 0<=23:=fun j hj=>(mJ.1 eZ).1 _ (gP.2 (Or.inl (kz hj)));rw[HU.out];have Ml:(bJ mem (bA d.ino) d.rc).size=768:=by rw[oA];exact hm
   have HE:Hid (vE mem d=kJ d (jc d (bJ mem (bA d.ino) d.rc) d.pg.length) d.fr.length):=rfl;have hW:Hid (∀ W,Calls prog 60 #[.string mem,ad (bA d.ino),.string d.rc] W fun e w'=>e=.returned (.string (bJ mem (bA d.ino) d.rc))/\∃ n,w'=W.drewN n):=fun W=>sk _ _ _ _ hms hrs;obtain ⟨m1,hm1⟩:∃ m1,bJ mem (bA d.ino) d.rc=m1:=⟨_,rfl⟩;rw[hm1] at Ml HE hW;rw[HE.out];clear HU HE hok hm1 eZ;go_enter func22,ntmps22;go_wp2_with (go_at_call 72;refine (HO.out _ x0.ah).mono ?_;rintro e w1 ⟨rfl,b1⟩;have x1:=x0.below b1;have c0:=x1.arg.c0;have c3:=x1.arg.c3);go_quiet ((first
    | (go_at_call 73;exact mB (tI _ _))
    | (go_at_call 60;exact Hs (hW.out _))))
   have x3:=x1.drewN nq;obtain ⟨w3,hw3⟩:∃ w3,w1.drewN nq=w3:=⟨_,rfl⟩;rw[hw3] at x3 ⊢;clear c0 c3 x1 b1 x0 hw3;go_wp2;go_loopw [0,5] (fun v i w'=>∃ k:Nat,k<=d.pg.length/\i=ad k/\v=.string (jc d m1 k)/\jI w d s w') (fun _ i _=>d.pg.length-(intOf i).toNat);case atStart=>exact ⟨0,aS _,rfl,rfl,x3⟩
   case round=>
   obtain ⟨k,hk,rfl,rfl,xr⟩:=hrel;have jz:=FA d m1 k;have c4:=xr.arg.c4;have c5:=xr.arg.c5;by_cases hlt:k<d.pg.length
   ·obtain ⟨b,off,hab,_,hcell⟩:=(HL.out _ xr.ah).r1.get hlt;have y1:=hcell k hlt;have hz:=fN k hlt;have HS:Hid (bJ (jc d m1 k) (d.pg.getD k 0*32) (aO d.aH ((k:Int)*32) 32)=jc d m1 (k+1)):=rfl;obtain ⟨z,ez⟩:∃ z,d.pg.getD k 0=z:=⟨_,rfl⟩;rw[ez] at y1 hz HS;rw[hab] at c4;clear hab;have e1:(0:Int)<=(k:Int):=by omega
    have e2:(k:Int)<(d.pg.length:Int):=by omega
    have hpt:Hid (∀ W,Calls prog 74 #[.string d.aH,ad (k:Int)] W (dp (.string (aO d.aH ((k:Int)*32) 32)) W)):=fun W=>Ra _ _ _ hss (by omega);have hwt:Hid (∀ W,Calls prog 60 #[.string (jc d m1 k),ad (z*32),.string (aO d.aH ((k:Int)*32) 32)] W fun e w'=>e=.returned (.string (bJ (jc d m1 k) (z*32) (aO d.aH ((k:Int)*32) 32)))/\∃ n,w'=W.drewN n):=fun W=>sk _ _ _ _ (by rw[jz];omega) (bt (nn _ _ _) hss);clear ez hcell jz;go_wp2;go_quiet ((first
     | (go_at_call 74;exact mB (hpt.out _))
     | (go_at_call 60;exact Hs (hwt.out _))))
    have x5:=xr.drewN nq;go_wp2;go_roundw;case rel=>exact ⟨k+1,by omega,by go_num,by rw[HS.out],x5⟩
    case measure=>simp[intOf];omega
   obtain rfl:k=d.pg.length:=by omega
   have e9:decide ((d.pg.length:Int)<(d.pg.length:Int))=false:=by simp
   obtain ⟨m2,hm2⟩:∃ m2,jc d m1 d.pg.length=m2:=⟨_,rfl⟩;have L5:Hid (jc d m1 d.pg.length=m2):=hm2;rw[hm2] at jz ⊢;clear hm2 x3 c5;go_wp2;go_loopw [0,6] (fun v i w'=>∃ k:Nat,k<=d.fr.length/\i=ad k/\v=.string (kJ d m2 k)/\jI w d s w') (fun _ i _=>d.fr.length-(intOf i).toNat);case atStart=>exact ⟨0,aS _,rfl,rfl,xr⟩
   case round=>
   rename_i wr2;obtain ⟨j,hj,rfl,rfl,xq⟩:=hrel;have hvs:=FC d m2 j;have c7:=xq.arg.c7;by_cases hlt2:j<d.fr.length
   ·obtain ⟨b,off,hab,_,hcell⟩:=(HL.out _ xq.ah).r3.get hlt2;have y1:=hcell j hlt2;have HS:Hid (bJ (kJ d m2 j) (bA (d.fr.getD j 0)) (bB 16)=kJ d m2 (j+1)):=rfl;obtain ⟨z,ez⟩:∃ z,d.fr.getD j 0=z:=⟨_,rfl⟩;rw[ez] at y1 HS;rw[hab] at c7;clear hab;have e1:(0:Int)<=(j:Int):=by omega
    have e2:(j:Int)<(d.fr.length:Int):=by omega
    have hwt:Hid (∀ W,Calls prog 60 #[.string (kJ d m2 j),ad (bA z),.string (bB 16)] W fun e w'=>e=.returned (.string (bJ (kJ d m2 j) (bA z) (bB 16)))/\∃ n,w'=W.drewN n):=fun W=>sk _ _ _ _ (by rw[hvs];omega) Q9;clear ez hcell hvs;go_wp2_with (first
     | (go_at_call 73;refine (tI _ _).mono ?_;rintro e w' ⟨rfl,rfl⟩)
     | (go_at_call 75;refine (nj _ _).mono ?_;rintro e w' ⟨rfl,rfl⟩)
     | (go_at_call 60;refine (hwt.out _).mono ?_;rintro e w7 ⟨rfl,m7,rfl⟩;have x7:=xq.drewN m7))
    go_roundw;case rel=>exact ⟨j+1,by omega,by go_num,by rw[HS.out],x7⟩
    case measure=>simp[intOf];omega
   obtain rfl:j=d.fr.length:=by omega
   have e8:decide ((d.fr.length:Int)<(d.fr.length:Int))=false:=by simp
   go_wp2;go_ret;exact ⟨by rw[L5.out];rfl,xq.ah⟩
  ·have g8:((mem.size:Int) != 768)=true:=by simp;omega
   have HU:Hid (dy mem d=mem):=by
    show dy mem d=mem
    rw[dy,aG];rintro ⟨_,h⟩;exact hm h
   rw[HU.out];clear HU hok hm;go_enter func22,ntmps22;go_wp2_with (go_at_call 72;refine (HO.out _ x0.ah).mono ?_;rintro e w1 ⟨rfl,b1⟩;have x1:=x0.below b1);go_ret;exact ⟨rfl,x1.ah⟩
section
theorem Re (m:ByteArray) (d:ak):(dy m d).size=m.size:=by
 unfold dy;split;·rw[vE,FC,FA,oA]
 rfl
def dB (ds:List ak) (m:ByteArray):Nat->ByteArray
 | 0=>m
 | k+1=>dy (dB ds m k) (au ds k)
theorem ml (ds:List ak) (m:ByteArray):∀ k,(dB ds m k).size=m.size
 | 0=>rfl
 | k+1=>by rw[dB,Re,ml ds m k]
def bM (k:aL):ByteArray:=dB k.ds k.mem k.ds.length
structure pY (w:World) (k:aL) (a:Option Addr) (c:Nat) (W:World):Prop where
 arg:av w.heap.size (cU k a c) W
 ah:aj w W
variable {w W W' : World} {k : aL} {a : Option Addr} {c : Nat}
theorem pY.below (h:pY w k a c W) (hb:aj W W'):pY w k a c W':=⟨h.arg.below hb,h.ah.trans (hb.mono h.ah.size)⟩
theorem tU (w:World) (k:aL) (a:Option Addr) (c:Nat):pY w k a c (w.alloc (.cells #[.string k.mem,.string k.ay,.slice a k.ds.length c,ad k.ck] 28)):=⟨bu (cU k a c) w 28,aB _ _⟩
def jJ (ds:List ak) (ss:Nat->aA):Prop:=∀ j,j<ds.length->jX (au ds j) (ss j)/\(au ds j).po.length<=1048576/\(au ds j).fr.length<=1048576
theorem FD (k:aL) (a:Option Addr) (c:Nat) (ss:Nat->aA) (w:World) (hms:k.mem.size<=281474976710656) (hn:k.ds.length<=1048576) (hF:jJ k.ds ss) (hR:aZ w a k.ds ss):Calls prog 24 #[aU k a c] w (aT (.string (bM k)) w):=by
 have x0:=tU w k a c;have HL:Hid (∀ W,aj w W->aZ W a k.ds ss):=fun W hb=>hR.below hb;have HT:Hid (bM k=dB k.ds k.mem k.ds.length):=rfl;have HF:Hid (jJ k.ds ss):=hF;clear hR hF;go_enter func24,ntmps24;go_wp2;go_loopw [3,4] (fun v i w'=>∃ j:Nat,j<=k.ds.length/\i=ad j/\v=.string (dB k.ds k.mem j)/\pY w k a c w') (fun _ i _=>k.ds.length-(intOf i).toNat);case atStart=>exact ⟨0,aS _,rfl,rfl,x0⟩
 case round=>
 obtain ⟨j,hj,rfl,rfl,xr⟩:=hrel;clear x0;have jz:=ml k.ds k.mem j;have c2:=xr.arg.c2;by_cases hlt:j<k.ds.length
 ·have ls:=(HL.out _ xr.ah).sub j hlt;obtain ⟨hf,hpo,hfr⟩:=HF.out j hlt;obtain ⟨b,off,hab,fW,hc⟩:=(HL.out _ xr.ah).row.get hlt;obtain ⟨y0,y1,y2,y3,y4,y5,y6,y7⟩:=hc j hlt;have HS:Hid (dy (dB k.ds k.mem j) (au k.ds j)=dB k.ds k.mem (j+1)):=rfl;obtain ⟨d,ed⟩:∃ d,au k.ds j=d:=⟨_,rfl⟩;obtain ⟨s,es⟩:∃ s,ss j=s:=⟨_,rfl⟩;rw[ed,es] at ls hf;rw[ed] at y0 y1 y2 y3 y4 y5 y6 y7 HS hpo hfr;rw[es] at y4 y6 y7;rw[hab] at c2;clear hab;have e1:(0:Int)<=(j:Int):=by omega
  have e2:(j:Int)<(k.ds.length:Int):=by omega
  have HU:Hid (Calls prog 22 #[.string (dB k.ds k.mem j),bH d s] wr (aT (.string (dy (dB k.ds k.mem j) d)) wr)):=JB _ d s wr (by omega) hf hpo hfr ls;clear ed es hc ls hf;go_wp2_with (go_at_call 22;refine HU.out.mono ?_;rintro e w1 ⟨rfl,b1⟩;have x1:=xr.below b1);go_roundw;case rel=>exact ⟨j+1,by omega,by go_num,by rw[HS.out],x1⟩
  case measure=>simp[intOf];omega
 obtain rfl:j=k.ds.length:=by omega
 have e9:decide ((k.ds.length:Int)<(k.ds.length:Int))=false:=by simp
 go_wp2;go_ret;exact ⟨by rw[HT.out];rfl,xr.ah⟩
theorem Rf (k:aL) (a:Option Addr) (c:Nat) (ss:Nat->aA) (w:World) (hms:k.mem.size<=281474976710656) (hn:k.ds.length<=1048576) (hF:jJ k.ds ss) (hR:aZ w a k.ds ss):Calls prog 12 #[aU k a c] w (aT (.string (bM k)) w):=by
 have x0:=tU w k a c;have HL:Hid (∀ W,aj w W->aZ W a k.ds ss):=fun W hb=>hR.below hb;have HT:Hid (bM k=dB k.ds k.mem k.ds.length):=rfl;have HF:Hid (jJ k.ds ss):=hF;clear hR hF;go_enter func12,ntmps12;go_wp2_with (go_at_call 50;refine (yS _ _ hms).mono ?_;rintro e w2 ⟨rfl,b2⟩;have x2:=x0.below b2;have c2:=x2.arg.c2);go_loopw [3,13] (fun v i w'=>∃ j:Nat,j<=k.ds.length/\i=ad j/\v=.string (dB k.ds k.mem j)/\pY w k a c w') (fun _ i _=>k.ds.length-(intOf i).toNat);case atStart=>exact ⟨0,aS _,rfl,rfl,x2⟩
 case round=>
 obtain ⟨j,hj,rfl,rfl,xr⟩:=hrel;clear x0 x2 c2 b2;have jz:=ml k.ds k.mem j;by_cases hlt:j<k.ds.length
 ·have ls:=(HL.out _ xr.ah).sub j hlt;obtain ⟨hf,hpo,hfr⟩:=HF.out j hlt;obtain ⟨b,off,hab,fW,hc⟩:=(HL.out _ xr.ah).row.get hlt;obtain ⟨y0,y1,y2,y3,y4,y5,y6,y7⟩:=hc j hlt;have HS:Hid (dy (dB k.ds k.mem j) (au k.ds j)=dB k.ds k.mem (j+1)):=rfl;obtain ⟨d,ed⟩:∃ d,au k.ds j=d:=⟨_,rfl⟩;obtain ⟨s,es⟩:∃ s,ss j=s:=⟨_,rfl⟩;rw[ed,es] at ls hf;rw[ed] at y0 y1 y2 y3 y4 y5 y6 y7 HS hpo hfr;rw[es] at y4 y6 y7;rw[hab];have e1:(0:Int)<=(j:Int):=by omega
  have e2:(j:Int)<(k.ds.length:Int):=by omega
  have HU:Hid (∀ W,aj wr W->Calls prog 51 #[.string (dB k.ds k.mem j),bH d s] W (aT (.string (dy (dB k.ds k.mem j) d)) W)):=fun W hb=>Rc _ d s W (by omega) hf hpo hfr (ls.below hb);clear ed es hc ls hf;have hal:=aB wr (.cells (dZ d s) 49);have x5:=xr.below hal;go_wp2_with (go_at_call 51;refine (HU.out _ hal).mono ?_;rintro e w1 ⟨rfl,b1⟩;have x6:=x5.below b1);go_roundw;case rel=>exact ⟨j+1,by omega,by go_num,by rw[HS.out],hab ▸ x6⟩
  case measure=>simp[intOf];omega
 obtain rfl:j=k.ds.length:=by omega
 go_wp2;go_ret;exact ⟨by rw[HT.out];rfl,xr.ah⟩
end
def cE (zs:List Int) (k:Nat):List Int:=(zs.take k).flatMap fun p=>[p*32,32]
def kK (zs:List Int) (k:Nat):List Int:=(zs.take k).flatMap fun f=>[bA f,16]
def fU (d:ak):List Int:=if bT d then [bA d.ino,16]++cE d.pg d.pg.length++cE d.po d.po.length++kK d.fr d.fr.length else []
def kL (d:ak):Nat:=if bT d then 1+d.pg.length+d.po.length+d.fr.length else 0
theorem FE (zs:List Int) (k:Nat) (h:k<zs.length):cE zs (k+1)=cE zs k ++ [zs.getD k 0*32,32]:=by unfold cE;rw[kr h,List.flatMap_append,eS _ _ h];simp
theorem Rh (zs:List Int) (k:Nat) (h:k<zs.length):kK zs (k+1)=kK zs k ++ [bA (zs.getD k 0),16]:=by unfold kK;rw[kr h,List.flatMap_append,eS _ _ h];simp
def pZ (d:ak) (w:World) (e:Ending) (w':World):Prop:=∃ a c,e=.returned (.slice a (kL d) c)/\(fU d).length=kL d*2/\kL d<=c/\aQ w.heap.size w' a (fU d)/\aj w w'
theorem Ri {d:ak} {w w':World} {a:Option Addr} {c:Nat} (h:bT d=false) (hb:aj w w'):pZ d w (.returned (.slice a 0 c)) w':=by
 have e1:fU d=[]:=by rw[fU,h];rfl
 have e2:kL d=0:=by rw[kL,h];rfl
 exact ⟨a,c,by rw[e2],by rw[e1,e2];rfl,by rw[e2];exact aS _,by rw[e1];exact Or.inl rfl,hb⟩
theorem Rk {d:ak} {w w':World} {a:Option Addr} {n c:Nat} {zs:List Int} (h:bT d=true) (hn:n=1+d.pg.length+d.po.length+d.fr.length) (hz:zs=[bA d.ino,16]++cE d.pg d.pg.length++cE d.po d.po.length++kK d.fr d.fr.length) (hbuf:iB (w.heap.size+1) w' a n c zs) (hb:aj w w'):pZ d w (.returned (.slice a n c)) w':=by
 have e1:fU d=zs:=by rw[fU,h,hz];rfl
 have e2:kL d=n:=by rw[kL,h,hn];rfl
 exact ⟨a,c,by rw[e2],by rw[e1,e2];exact hbuf.1,by rw[e2];exact hbuf.fits,by rw[e1];exact hbuf.own.mono (by omega),hb⟩
theorem zK {w W W':World} {d:ak} {s:aA} (h:jI w d s W) (hb:Below (w.heap.size+1) W W'):jI w d s W':=⟨⟨fQ h.arg.b hb (by omega)⟩,h.ah.trans (hb.mono (by omega))⟩
theorem vF {w W:World} {d:ak} {s:aA} (h:jI w d s W):w.heap.size+1<=W.heap.size:=h.arg.b.lt
theorem acr (d:ak) (s:aA) (w:World) (hF:jX d s) (hpo:d.po.length<=1048576) (hfr:d.fr.length<=1048576) (hR:dq w d s):Calls prog 133 #[bH d s] w (pZ d w):=by
 have x0:=zJ w d s;have HL:Hid (∀ W,aj w W->dq W d s):=fun W hb=>hR.below hb;have HO:Hid (∀ W,aj w W->_):=fun W hb=>Jo d s W hF hpo hfr (hR.below hb);have HN:Hid (∀ a c w',bT d=false->aj w w'->pZ d w (.returned (.slice a 0 c)) w'):=fun a c w' h hb=>Ri h hb;have HY:Hid (∀ a n c zs w',bT d=true->n=1+d.pg.length+d.po.length+d.fr.length->zs=[bA d.ino,16]++cE d.pg d.pg.length++cE d.po d.po.length++kK d.fr d.fr.length->iB (w.heap.size+1) w' a n c zs->aj w w'->pZ d w (.returned (.slice a n c)) w'):=fun a n c zs w' h hn hz hbuf hb=>Rk h hn hz hbuf hb;obtain ⟨R,hR'⟩:∃ R,pZ d w=R:=⟨_,rfl⟩;rw[hR'] at HN HY ⊢;clear hR hR' hF;cases hok:bT d with
 | false=>
  rw[hok] at HO;have hok':=hok;clear hok;go_enter func133,ntmps133;go_wp2_with (go_at_call 89;refine (HO.out _ x0.ah).mono ?_;rintro e w1 ⟨rfl,b1⟩;have x1:=x0.below b1);exact HN.out _ _ _ hok' (x1.ah.alloc x1.ah.size _)
 | true=>
  rw[hok] at HO;obtain ⟨-,-,-,-,-,-,te,wu,hf2,eZ,-,-,-⟩:=iO hok;have fN:∀ j,j<d.pg.length->5<=d.pg.getD j 0/\d.pg.getD j 0<=23:=fun j hj=>(mJ.1 eZ).1 _ (gP.2 (Or.inl (kz hj)));have hpq:∀ j,j<d.po.length->5<=d.po.getD j 0/\d.po.getD j 0<=23:=fun j hj=>(mJ.1 eZ).1 _ (gP.2 (Or.inr (kz hj)));have MH:Hid (bT d=true):=hok;clear hok eZ;go_enter func133,ntmps133;go_wp2_with (first
   | (go_at_call 89;refine (HO.out _ x0.ah).mono ?_;rintro e w1 ⟨rfl,b1⟩;have x1:=x0.below b1;have c0:=x1.arg.c0;have x2:=x1.below (aB w1 (.cells #[ad (bA d.ino),ad 16] 114));have c4:=x2.arg.c4;have lJ:iB (w.heap.size+1) (w1.alloc (.cells #[ad (bA d.ino),ad 16] 114)) (some ⟨w1.heap.size,0,none⟩) 1 1 [bA d.ino,16]:=Qo w1 _ _ (vF x1))
   | (go_at_call 91;refine (su _ _).mono ?_;rintro e wq ⟨rfl,rfl⟩))
  obtain ⟨p0,hp0⟩:∃ p0,[bA d.ino,16]=p0:=⟨_,rfl⟩;have K8:Hid ([bA d.ino,16]=p0):=hp0;rw[hp0] at lJ;clear hp0 c0 c4 x0 x1 b1;go_loopw [3,22] (fun v i w'=>∃ (k0 c:Nat) (a:Option Addr),k0<=d.pg.length/\i=ad k0/\v=.slice a (1+k0) c/\iB (w.heap.size+1) w' a (1+k0) c (p0++cE d.pg k0)/\jI w d s w') (fun _ i _=>d.pg.length-(intOf i).toNat);case atStart=>exact ⟨0,_,_,aS _,rfl,rfl,by rw[show p0++cE d.pg 0=p0 by simp[cE]];exact lJ,x2⟩
  case round=>
   obtain ⟨k0,cq0,aq0,hk0,rfl,rfl,CM,pB⟩:=hrel;clear lJ x2;have WD:=pB.arg.c4;by_cases hlt:k0<d.pg.length
   ·obtain ⟨b,off,hab,_,hcell⟩:=(HL.out _ pB.ah).r1.get hlt;have y1:=hcell k0 hlt;have hz:=fN k0 hlt;have HS:Hid (p0++cE d.pg k0 ++ [d.pg.getD k0 0*32,32]=p0++cE d.pg (k0+1)):=by show _=_;rw[jQ,<- FE _ _ hlt]
    obtain ⟨z,ez⟩:∃ z,d.pg.getD k0 0=z:=⟨_,rfl⟩;rw[ez] at y1 HS hz;rw[hab];have e1:(0:Int)<=(k0:Int):=by omega
    have e2:(k0:Int)<(d.pg.length:Int):=by omega
    have hsz:=vF pB;clear ez hcell;go_wp2_with (at_builtin;refine zA rfl (.tmp 26) (.tmp 30) rfl CM _ _ (by rfl) (by rfl) (by omega) hsz ?_;intro g5 cap5 w5 rM bel5);go_roundw;case rel=>exact ⟨k0+1,cap5,_,by omega,by go_num,by rw[mD],by rw[<- HS.out,<- mD];exact rM,zK pB bel5⟩
    case measure=>simp[intOf];omega
   obtain rfl:k0=d.pg.length:=by omega
   have d0:=pB.arg.c6;go_wp2;go_loopw [3,36] (fun v i w'=>∃ (k1 c:Nat) (a:Option Addr),k1<=d.po.length/\i=ad k1/\v=.slice a ((1+d.pg.length)+k1) c/\iB (w.heap.size+1) w' a ((1+d.pg.length)+k1) c ((p0++cE d.pg d.pg.length)++cE d.po k1)/\jI w d s w') (fun _ i _=>d.po.length-(intOf i).toNat);case atStart=>exact ⟨0,_,_,aS _,rfl,rfl,by rw[show (p0++cE d.pg d.pg.length)++cE d.po 0=(p0++cE d.pg d.pg.length) by simp[cE]];exact CM,pB⟩
   case round=>
   rename_i wr2;obtain ⟨k1,cq1,aq1,hk1,rfl,rfl,Dw,oY⟩:=hrel;skip;have VE:=oY.arg.c6;by_cases hlt:k1<d.po.length
   ·obtain ⟨b,off,hab,_,hcell⟩:=(HL.out _ oY.ah).r2.get hlt;have y1:=hcell k1 hlt;have hz:=hpq k1 hlt;have HS:Hid ((p0++cE d.pg d.pg.length)++cE d.po k1 ++ [d.po.getD k1 0*32,32]=(p0++cE d.pg d.pg.length)++cE d.po (k1+1)):=by show _=_;rw[jQ,<- FE _ _ hlt]
    obtain ⟨z,ez⟩:∃ z,d.po.getD k1 0=z:=⟨_,rfl⟩;rw[ez] at y1 HS hz;rw[hab];have e1:(0:Int)<=(k1:Int):=by omega
    have e2:(k1:Int)<(d.po.length:Int):=by omega
    have hsz:=vF oY;clear ez hcell;go_wp2_with (at_builtin;refine zA rfl (.tmp 40) (.tmp 44) rfl Dw _ _ (by rfl) (by rfl) (by omega) hsz ?_;intro g5 cap5 w5 rM bel5);go_roundw;case rel=>exact ⟨k1+1,cap5,_,by omega,by go_num,by rw[mD],by rw[<- HS.out,<- mD];exact rM,zK oY bel5⟩
    case measure=>simp[intOf];omega
   obtain rfl:k1=d.po.length:=by omega
   have d1:=oY.arg.c7;go_wp2;go_loopw [3,50] (fun v i w'=>∃ (k2 c:Nat) (a:Option Addr),k2<=d.fr.length/\i=ad k2/\v=.slice a (((1+d.pg.length)+d.po.length)+k2) c/\iB (w.heap.size+1) w' a (((1+d.pg.length)+d.po.length)+k2) c (((p0++cE d.pg d.pg.length)++cE d.po d.po.length)++kK d.fr k2)/\jI w d s w') (fun _ i _=>d.fr.length-(intOf i).toNat);case atStart=>exact ⟨0,_,_,aS _,rfl,rfl,by rw[show ((p0++cE d.pg d.pg.length)++cE d.po d.po.length)++kK d.fr 0=((p0++cE d.pg d.pg.length)++cE d.po d.po.length) by simp[kK]];exact Dw,oY⟩
   case round=>
   rename_i wr3;obtain ⟨k2,cq2,aq2,hk2,rfl,rfl,lJ,rR⟩:=hrel;skip;have Vl:=rR.arg.c7;by_cases hlt:k2<d.fr.length
   ·obtain ⟨b,off,hab,_,hcell⟩:=(HL.out _ rR.ah).r3.get hlt;have y1:=hcell k2 hlt;have HS:Hid (((p0++cE d.pg d.pg.length)++cE d.po d.po.length)++kK d.fr k2 ++ [bA (d.fr.getD k2 0),16]=((p0++cE d.pg d.pg.length)++cE d.po d.po.length)++kK d.fr (k2+1)):=by show _=_;rw[jQ,<- Rh _ _ hlt]
    obtain ⟨z,ez⟩:∃ z,d.fr.getD k2 0=z:=⟨_,rfl⟩;rw[ez] at y1 HS;rw[hab];have e1:(0:Int)<=(k2:Int):=by omega
    have e2:(k2:Int)<(d.fr.length:Int):=by omega
    have hsz:=vF rR;clear ez hcell;go_wp2_with (first
     | (go_at_call 91;refine (su _ _).mono ?_;rintro e wq ⟨rfl,rfl⟩)
     | (at_builtin;refine zA rfl (.tmp 54) (.tmp 58) rfl lJ _ _ (by rfl) (by rfl) (by omega) hsz ?_;intro g5 cap5 w5 rM bel5))
    go_roundw;case rel=>exact ⟨k2+1,cap5,_,by omega,by go_num,by rw[mD],by rw[<- HS.out,<- mD];exact rM,zK rR bel5⟩
    case measure=>simp[intOf];omega
   obtain rfl:k2=d.fr.length:=by omega
   go_wp2;refine HY.out _ _ _ _ _ MH.out rfl ?_ lJ rR.ah;rw[K8.out]
theorem FF (d:ak) (s:aA) (w:World) (hF:jX d s) (hpo:d.po.length<=1048576) (hfr:d.fr.length<=1048576) (hR:dq w d s):Calls prog 76 #[bH d s] w (pZ d w):=by
 have x0:=zJ w d s;have HL:Hid (∀ W,aj w W->dq W d s):=fun W hb=>hR.below hb;have HO:Hid (∀ W,aj w W->_):=fun W hb=>Fu d s W hF hpo hfr (hR.below hb);have HN:Hid (∀ a c w',bT d=false->aj w w'->pZ d w (.returned (.slice a 0 c)) w'):=fun a c w' h hb=>Ri h hb;have HY:Hid (∀ a n c zs w',bT d=true->n=1+d.pg.length+d.po.length+d.fr.length->zs=[bA d.ino,16]++cE d.pg d.pg.length++cE d.po d.po.length++kK d.fr d.fr.length->iB (w.heap.size+1) w' a n c zs->aj w w'->pZ d w (.returned (.slice a n c)) w'):=fun a n c zs w' h hn hz hbuf hb=>Rk h hn hz hbuf hb;obtain ⟨R,hR'⟩:∃ R,pZ d w=R:=⟨_,rfl⟩;rw[hR'] at HN HY ⊢;clear hR hR' hF;cases hok:bT d with
 | false=>
  rw[hok] at HO;have hok':=hok;clear hok;go_enter func76,ntmps76;go_wp2_with (go_at_call 72;refine (HO.out _ x0.ah).mono ?_;rintro e w1 ⟨rfl,b1⟩;have x1:=x0.below b1);exact HN.out _ _ _ hok' (x1.ah.alloc x1.ah.size _)
 | true=>
  rw[hok] at HO;obtain ⟨-,-,-,-,-,-,te,wu,hf2,eZ,-,-,-⟩:=iO hok;have fN:∀ j,j<d.pg.length->5<=d.pg.getD j 0/\d.pg.getD j 0<=23:=fun j hj=>(mJ.1 eZ).1 _ (gP.2 (Or.inl (kz hj)));have hpq:∀ j,j<d.po.length->5<=d.po.getD j 0/\d.po.getD j 0<=23:=fun j hj=>(mJ.1 eZ).1 _ (gP.2 (Or.inr (kz hj)));have MH:Hid (bT d=true):=hok;clear hok eZ;go_enter func76,ntmps76;go_wp2_with (first
   | (go_at_call 72;refine (HO.out _ x0.ah).mono ?_;rintro e w1 ⟨rfl,b1⟩;have x1:=x0.below b1;have c0:=x1.arg.c0;have x2:=x1.below (aB w1 (.cells #[ad (bA d.ino),ad 16] 114));have c4:=x2.arg.c4;have lJ:iB (w.heap.size+1) (w1.alloc (.cells #[ad (bA d.ino),ad 16] 114)) (some ⟨w1.heap.size,0,none⟩) 1 1 [bA d.ino,16]:=Qo w1 _ _ (vF x1))
   | (go_at_call 73;refine (tI _ _).mono ?_;rintro e wq ⟨rfl,rfl⟩))
  obtain ⟨p0,hp0⟩:∃ p0,[bA d.ino,16]=p0:=⟨_,rfl⟩;have K8:Hid ([bA d.ino,16]=p0):=hp0;rw[hp0] at lJ;clear hp0 c0 c4 x0 x1 b1;go_loopw [3,4] (fun v i w'=>∃ (k0 c:Nat) (a:Option Addr),k0<=d.pg.length/\i=ad k0/\v=.slice a (1+k0) c/\iB (w.heap.size+1) w' a (1+k0) c (p0++cE d.pg k0)/\jI w d s w') (fun _ i _=>d.pg.length-(intOf i).toNat);case atStart=>exact ⟨0,_,_,aS _,rfl,rfl,by rw[show p0++cE d.pg 0=p0 by simp[cE]];exact lJ,x2⟩
  case round=>
   obtain ⟨k0,cq0,aq0,hk0,rfl,rfl,CM,pB⟩:=hrel;clear lJ x2;have WD:=pB.arg.c4;by_cases hlt:k0<d.pg.length
   ·obtain ⟨b,off,hab,_,hcell⟩:=(HL.out _ pB.ah).r1.get hlt;have y1:=hcell k0 hlt;have hz:=fN k0 hlt;have HS:Hid (p0++cE d.pg k0 ++ [d.pg.getD k0 0*32,32]=p0++cE d.pg (k0+1)):=by show _=_;rw[jQ,<- FE _ _ hlt]
    obtain ⟨z,ez⟩:∃ z,d.pg.getD k0 0=z:=⟨_,rfl⟩;rw[ez] at y1 HS hz;rw[hab] at WD;clear hab;have e1:(0:Int)<=(k0:Int):=by omega
    have e2:(k0:Int)<(d.pg.length:Int):=by omega
    have hsz:=vF pB;clear ez hcell;go_wp2_with (at_builtin;refine zA rfl (.tmp 23) (.tmp 31) rfl CM _ _ (by rfl) (by rfl) (by omega) hsz ?_;intro g5 cap5 w5 rM bel5);go_roundw;case rel=>exact ⟨k0+1,cap5,_,by omega,by go_num,by rw[mD],by rw[<- HS.out,<- mD];exact rM,zK pB bel5⟩
    case measure=>simp[intOf];omega
   obtain rfl:k0=d.pg.length:=by omega
   have e9:decide ((d.pg.length:Int)<(d.pg.length:Int))=false:=by simp
   have d0:=pB.arg.c6;go_wp2;go_loopw [3,5] (fun v i w'=>∃ (k1 c:Nat) (a:Option Addr),k1<=d.po.length/\i=ad k1/\v=.slice a ((1+d.pg.length)+k1) c/\iB (w.heap.size+1) w' a ((1+d.pg.length)+k1) c ((p0++cE d.pg d.pg.length)++cE d.po k1)/\jI w d s w') (fun _ i _=>d.po.length-(intOf i).toNat);case atStart=>exact ⟨0,_,_,aS _,rfl,rfl,by rw[show (p0++cE d.pg d.pg.length)++cE d.po 0=(p0++cE d.pg d.pg.length) by simp[cE]];exact CM,pB⟩
   case round=>
   rename_i wr2;obtain ⟨k1,cq1,aq1,hk1,rfl,rfl,Dw,oY⟩:=hrel;skip;have VE:=oY.arg.c6;by_cases hlt:k1<d.po.length
   ·obtain ⟨b,off,hab,_,hcell⟩:=(HL.out _ oY.ah).r2.get hlt;have y1:=hcell k1 hlt;have hz:=hpq k1 hlt;have HS:Hid ((p0++cE d.pg d.pg.length)++cE d.po k1 ++ [d.po.getD k1 0*32,32]=(p0++cE d.pg d.pg.length)++cE d.po (k1+1)):=by show _=_;rw[jQ,<- FE _ _ hlt]
    obtain ⟨z,ez⟩:∃ z,d.po.getD k1 0=z:=⟨_,rfl⟩;rw[ez] at y1 HS hz;rw[hab] at VE;clear hab;have e1:(0:Int)<=(k1:Int):=by omega
    have e2:(k1:Int)<(d.po.length:Int):=by omega
    have hsz:=vF oY;clear ez hcell;go_wp2_with (at_builtin;refine zA rfl (.tmp 40) (.tmp 48) rfl Dw _ _ (by rfl) (by rfl) (by omega) hsz ?_;intro g5 cap5 w5 rM bel5);go_roundw;case rel=>exact ⟨k1+1,cap5,_,by omega,by go_num,by rw[mD],by rw[<- HS.out,<- mD];exact rM,zK oY bel5⟩
    case measure=>simp[intOf];omega
   obtain rfl:k1=d.po.length:=by omega
   have e9:decide ((d.po.length:Int)<(d.po.length:Int))=false:=by simp
   have d1:=oY.arg.c7;go_wp2;go_loopw [3,6] (fun v i w'=>∃ (k2 c:Nat) (a:Option Addr),k2<=d.fr.length/\i=ad k2/\v=.slice a (((1+d.pg.length)+d.po.length)+k2) c/\iB (w.heap.size+1) w' a (((1+d.pg.length)+d.po.length)+k2) c (((p0++cE d.pg d.pg.length)++cE d.po d.po.length)++kK d.fr k2)/\jI w d s w') (fun _ i _=>d.fr.length-(intOf i).toNat);case atStart=>exact ⟨0,_,_,aS _,rfl,rfl,by rw[show ((p0++cE d.pg d.pg.length)++cE d.po d.po.length)++kK d.fr 0=((p0++cE d.pg d.pg.length)++cE d.po d.po.length) by simp[kK]];exact Dw,oY⟩
   case round=>
   rename_i wr3;obtain ⟨k2,cq2,aq2,hk2,rfl,rfl,lJ,rR⟩:=hrel;skip;have Vl:=rR.arg.c7;by_cases hlt:k2<d.fr.length
   ·obtain ⟨b,off,hab,_,hcell⟩:=(HL.out _ rR.ah).r3.get hlt;have y1:=hcell k2 hlt;have HS:Hid (((p0++cE d.pg d.pg.length)++cE d.po d.po.length)++kK d.fr k2 ++ [bA (d.fr.getD k2 0),16]=((p0++cE d.pg d.pg.length)++cE d.po d.po.length)++kK d.fr (k2+1)):=by show _=_;rw[jQ,<- Rh _ _ hlt]
    obtain ⟨z,ez⟩:∃ z,d.fr.getD k2 0=z:=⟨_,rfl⟩;rw[ez] at y1 HS;rw[hab] at Vl;clear hab;have e1:(0:Int)<=(k2:Int):=by omega
    have e2:(k2:Int)<(d.fr.length:Int):=by omega
    have hsz:=vF rR;clear ez hcell;go_wp2_with (first
     | (go_at_call 73;refine (tI _ _).mono ?_;rintro e wq ⟨rfl,rfl⟩)
     | (at_builtin;refine zA rfl (.tmp 57) (.tmp 65) rfl lJ _ _ (by rfl) (by rfl) (by omega) hsz ?_;intro g5 cap5 w5 rM bel5))
    go_roundw;case rel=>exact ⟨k2+1,cap5,_,by omega,by go_num,by rw[mD],by rw[<- HS.out,<- mD];exact rM,zK rR bel5⟩
    case measure=>simp[intOf];omega
   obtain rfl:k2=d.fr.length:=by omega
   have e9:decide ((d.fr.length:Int)<(d.fr.length:Int))=false:=by simp
   go_wp2;refine HY.out _ _ _ _ _ MH.out rfl ?_ lJ rR.ah;rw[K8.out]
def nG:List gx->List Int
 | []=>[]
 | r :: t=>r.1 :: r.2 :: nG t
theorem FG:∀ l m:List gx,nG (l++m)=nG l++nG m
 | [],m=>rfl
 | r :: t,m=>by simp[nG,FG t m]
theorem FH (f:Int->gx):∀ zs:List Int,nG (zs.map f)=zs.flatMap fun z=>[(f z).1,(f z).2]
 | []=>rfl
 | z :: t=>by simp[nG,FH f t]
theorem Rl:∀ (l:List gx) (i:Nat),i<l.length->(nG l)[i*2]? = some (ek l i).1/\(nG l)[i*2+1]? = some (ek l i).2
 | [],i,h=>by simp at h
 | r :: t,0,_=>by simp[nG,ek]
 | r :: t,i+1,h=>by
  have:=Rl t i (by simpa using h);have e:ek (r :: t) (i+1)=ek t i:=by simp[ek]
  rw[e,show (i+1)*2=i*2+1+1 by omega,show i*2+1+1+1=(i*2+1)+1+1 by omega];simpa [nG] using this
theorem JC:∀ l:List gx,(nG l).length=l.length*2
 | []=>rfl
 | r :: t=>by simp[nG,JC t];omega
def aJ (d:ak):List gx:=if bT d then [(bA d.ino,16)]++d.pg.map (fun p=>(p*32,32))++d.po.map (fun p=>(p*32,32))++d.fr.map (fun f=>(bA f,16)) else []
theorem Rm (d:ak):nG (aJ d)=fU d:=by
 unfold aJ fU;split
 ·rw[FG,FG,FG,FH,FH,FH];unfold cE kK;rw[ks,ks,ks];rfl
 rfl
theorem Cl (d:ak):(aJ d).length=kL d:=by
 unfold aJ kL;split
 ·simp;omega
 rfl
theorem Cm (d:ak):(aJ d).length<=13:=by
 unfold aJ;cases h:bT d with
 | false=>simp
 | true=>
  obtain ⟨-,-,-,-,-,-,te,wu,hf2,-,-,-,-⟩:=iO h;simp;omega
theorem JD (d:ak):∀ r ∈ aJ d,0<=r.1/\16<=r.2/\r.1+r.2<=768:=by
 unfold aJ;cases h:bT d with
 | false=>simp
 | true=>
  obtain ⟨-,-,-,-,hi,-,-,-,-,eZ,hfr,-,-⟩:=iO h;have fN:=(mJ.1 eZ).1;have hrec:∀ z:Int,0<=z->z<=7->bA z=32+z*16:=by intro z h0 h7;unfold bA;rw[aF (jE.2 ⟨h0,h7⟩)]
  intro r hr;simp only[if_true,gP,na,lW] at hr;rcases hr with ((hr | ⟨p,hp,hr⟩) | ⟨p,hp,hr⟩) | ⟨f,hf,hr⟩
  ·subst hr;rw[hrec _ hi.1 hi.2];simp;omega
  ·subst hr;have:=fN p (List.mem_append_left _ hp);simp;omega
  ·subst hr;have:=fN p (List.mem_append_right _ hp);simp;omega
  ·subst hr;have:=hfr f hf;rw[hrec f (by omega) (by omega)];simp;omega
theorem FJ (d:ak) {i:Nat} (h:i<(aJ d).length):0<=(ek (aJ d) i).1/\16<=(ek (aJ d) i).2/\(ek (aJ d) i).1+(ek (aJ d) i).2<=768:=by rw[zt _ _ h];exact JD d _ (nQ h)
def xA (d:ak) (i n:Int):Bool:=decide (1<=n/\n<=768/\0<=i/\i<=768-n) && vj (aJ d) i n.toNat
def acs (d:ak) (a:Option Addr) (lo:Nat) (W:World):Prop:=aJ d=[]\/∃ G,a=some ⟨G,0,none⟩/\lo<=G/\av G (bU (fU d)) W
theorem FK {d:ak} {a:Option Addr} {lo:Nat} {W:World} (h:aQ lo W a (fU d)):acs d a lo W:=by
 rcases h with h | h
 ·left;have:=JC (aJ d);rw[Rm,h] at this;simp at this;exact mW (by omega)
 exact Or.inr h
theorem zL {d:ak} {G:Nat} {W:World} (h:av G (bU (fU d)) W) {i:Nat} (hi:i<(aJ d).length):W.cell? ⟨G,i*2,none⟩=some (.int .i64 (ek (aJ d) i).1)/\W.cell? ⟨G,i*2+1,none⟩=some (.int .i64 (ek (aJ d) i).2):=by
 obtain ⟨h1,h2⟩:=Rl (aJ d) i hi;have hl:=JC (aJ d);rw[Rm] at h1 h2 hl;have c1:=h.cell (i*2) (by simp[bU];omega);have c2:=h.cell (i*2+1) (by simp[bU];omega);rw[c1,c2];obtain ⟨q1,e1⟩:=pI.1 h1;obtain ⟨q2,e2⟩:=pI.1 h2;constructor;·simp[bU,e1]
 simp[bU,e2]
end Go.Proofs.YtidmmopnkjbjoaaGreatDoor
