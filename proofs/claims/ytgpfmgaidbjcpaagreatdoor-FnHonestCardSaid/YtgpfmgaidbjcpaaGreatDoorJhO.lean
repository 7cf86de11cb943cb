/- Joined texts. -/
import Derived.Test.YtgpfmgaidbjcpaaGreatDoorJhM
import Derived.Test.YtgpfmgaidbjcpaaGreatDoorJhK
import Derived.Test.YtgpfmgaidbjcpaaGreatDoorJhL
set_option linter.unusedVariables false
set_option linter.unusedSimpArgs false
set_option maxRecDepth 10000
set_option maxHeartbeats 16000000
namespace Go.Proofs.YtgpfmgaidbjcpaaGreatDoor
open ChangeShapes WideShapes ChangeAt RowKit
open Go.Proofs.Tryz
section
def fT (d:ai) (m:ByteArray):Nat->ByteArray
 | 0=>m
 | k+1=>bs (fT d m k) (d.pg.getD k 0*32) (aX d.aU ((k:Int)*32) 32)
def fF (d:ai) (m:ByteArray):Nat->ByteArray
 | 0=>m
 | k+1=>bs (fF d m k) (aZ (d.fr.getD k 0)) (bG 16)
def zS (mem:ByteArray) (d:ai):ByteArray:=fF d (fT d (bs mem (aZ d.ino) d.rc) d.pg.length) d.fr.length
def gC (mem:ByteArray) (d:ai):ByteArray:=if bZ d=true/\mem.size=768 then zS mem d else mem
theorem oP (s:ByteArray) (i:Int) (t:ByteArray):(bs s i t).size=s.size:=by
 unfold bs;split
 ·rename_i h;obtain ⟨h1,h2,h3⟩:=su h;simp only[ke,pH];omega
 rfl
theorem JM (d:ai) (m:ByteArray):∀ k,(fT d m k).size=m.size
 | 0=>rfl
 | k+1=>by rw[fT,oP,JM d m k]
theorem JN (d:ai) (m:ByteArray):∀ k,(fF d m k).size=m.size
 | 0=>rfl
 | k+1=>by rw[fF,oP,JN d m k]
theorem adb:(bG 16).size<=281474976710656:=by
 unfold bG;split;·rw[sw];decide
 exact bh _
structure pX (w:World) (d:ai) (s:aI) (W:World):Prop where
 arg:fw w.heap.size d s W
 au:ah w W
variable {w W W' : World} {d : ai} {s : aI}
theorem pX.below (h:pX w d s W) (hb:ah W W'):pX w d s W':=⟨h.arg.below hb,h.au.trans (hb.mono h.au.size)⟩
theorem JO (w:World) (d:ai) (s:aI):pX w d s (xb w d s):=⟨jP d s w 31,aA _ _⟩
theorem ade (mem:ByteArray) (d:ai) (s:aI) (w:World) (hms:mem.size<=281474976710656) (hF:iV d s) (hpo:d.po.length<=1048576) (hfr:d.fr.length<=1048576) (hR:cJ w d s):Calls prog 22 #[.string mem,bL d s] w (aV (.string (gC mem d)) w):=by
 have x0:=JO w d s;have HL:Hid (∀ W,ah w W->cJ W d s):=fun W hb=>hR.below hb;have HO:Hid (∀ W,ah w W->_):=fun W hb=>BK d s W hF hpo hfr (hR.below hb);have hrs:=hF.m4;have hss:=hF.m5;clear hR hF;cases hok:bZ d with
 | false=>
  rw[hok] at HO;have HU:Hid (gC mem d=mem):=by
   show gC mem d=mem
   rw[gC,aM];rintro ⟨h,_⟩;rw[hok] at h;cases h
  rw[HU.out];clear HU hok;go_enter func22,ntmps22;go_wp2_with (first
   | (go_at_call 40;refine (HO.out _ x0.au).mono ?_;rintro e w1 ⟨rfl,b1⟩;have x1:=x0.below b1)
   | (go_at_call 21;refine (ze _ _ hms).mono ?_;rintro e w2 ⟨rfl,b2⟩;have x2:=x1.below b2))
  go_ret;exact ⟨rfl,x2.au⟩
 | true=>
  rw[hok] at HO;by_cases hm:mem.size=768
  ·have g8:((mem.size:Int) != 768)=false:=by simp;omega
   have HU:Hid (gC mem d=zS mem d):=by
    show gC mem d=_
    rw[gC,aN ⟨hok,hm⟩]
   obtain ⟨-,-,-,-,-,-,rL,-,hf2,kc,-,-,-⟩:=jt hok;have gY:∀ j,j<d.pg.length->5<=d.pg.getD j 0/\d.pg.getD j 0<=23:=fun j hj=>(nM.1 kc).1 _ (mr.2 (Or.inl (qS hj)));rw[HU.out];have h1s:(bs mem (aZ d.ino) d.rc).size=768:=by rw[oP];exact hm
   have HE:Hid (zS mem d=fF d (fT d (bs mem (aZ d.ino) d.rc) d.pg.length) d.fr.length):=rfl;have hW:Hid (∀ W,Calls prog 41 #[.string mem,aa (aZ d.ino),.string d.rc] W (aV (.string (bs mem (aZ d.ino) d.rc)) W)):=fun W=>uY _ _ _ _ hms hrs;obtain ⟨m1,hm1⟩:∃ m1,bs mem (aZ d.ino) d.rc=m1:=⟨_,rfl⟩;rw[hm1] at h1s HE hW;rw[HE.out];clear HU HE hok hm1 kc;go_enter func22,ntmps22;go_wp2_with (go_at_call 40;refine (HO.out _ x0.au).mono ?_;rintro e w1 ⟨rfl,b1⟩;have x1:=x0.below b1);have x2:=x1.below (W':=w1.drew) ((aQ _ _).drew);have c0:=x2.arg.c0;have c3:=x2.arg.c3;have s2:w1.drew.cell? ⟨w.heap.size,0,none⟩=some (aa d.ino)/\w1.drew.cell? ⟨w.heap.size,3,none⟩=some (.string d.rc):=⟨c0,c3⟩;go_region_held3 (fun W=>ad W w.heap.size 0 (aa d.ino)/\ad W w.heap.size 3 (.string d.rc)) (assumption) ((first
    | (go_at_call 17;refine (gP _ _).mono ?_;rintro e w' ⟨rfl,rfl⟩)
    | (go_at_call 41;refine (hW.out _).mono ?_;rintro e w3 ⟨rfl,b3⟩;have x3:=x2.below b3;have s3:ad w3 w.heap.size 0 (aa d.ino)/\ad w3 w.heap.size 3 (.string d.rc):=⟨x3.arg.c0,x3.arg.c3⟩)))
   have c4:=x3.arg.c4;clear s3 s2 c0 c3 x2 x1 b1 b3 x0;go_wp2;go_loopw [0,29] (fun v i w'=>∃ k:Nat,k<=d.pg.length/\i=aa k/\v=.string (fT d m1 k)/\pX w d s w') (fun _ i _=>d.pg.length-(intOf i).toNat);case atStart=>exact ⟨0,bh _,rfl,rfl,x3⟩
   case round=>
   obtain ⟨k,hk,rfl,rfl,xr⟩:=hrel;have qv:=JM d m1 k;by_cases hlt:k<d.pg.length
   ·obtain ⟨b,off,hab,_,hcell⟩:=(HL.out _ xr.au).r1.get hlt;have y1:=hcell k hlt;have hz:=gY k hlt;have HS:Hid (bs (fT d m1 k) (d.pg.getD k 0*32) (aX d.aU ((k:Int)*32) 32)=fT d m1 (k+1)):=rfl;obtain ⟨z,ez⟩:∃ z,d.pg.getD k 0=z:=⟨_,rfl⟩;rw[ez] at y1 hz HS;rw[hab];have c5:=xr.arg.c5;have e1:(0:Int)<=(k:Int):=by omega
    have e2:(k:Int)<(d.pg.length:Int):=by omega
    have hpt:Hid (∀ W,Calls prog 16 #[.string d.aU,aa ((k:Int)*32),aa 32] W (aV (.string (aX d.aU ((k:Int)*32) 32)) W)):=fun W=>lM _ _ _ _ hss;have hwt:Hid (∀ W,Calls prog 41 #[.string (fT d m1 k),aa (z*32),.string (aX d.aU ((k:Int)*32) 32)] W (aV (.string (bs (fT d m1 k) (z*32) (aX d.aU ((k:Int)*32) 32))) W)):=fun W=>uY _ _ _ _ (by rw[qv];omega) (br (nH _ _ _) hss);clear ez hcell qv;go_wp2_with (first
     | (go_at_call 16;refine (hpt.out _).mono ?_;rintro e w4 ⟨rfl,b4⟩;have x4:=xr.below b4)
     | (go_at_call 41;refine (hwt.out _).mono ?_;rintro e w5 ⟨rfl,b5⟩;have x5:=x4.below b5))
    go_roundw;case rel=>exact ⟨k+1,by omega,by go_num,by rw[HS.out],x5⟩
    case measure=>simp[intOf];omega
   obtain rfl:k=d.pg.length:=by omega
   have c7:=xr.arg.c7;obtain ⟨m2,hm2⟩:∃ m2,fT d m1 d.pg.length=m2:=⟨_,rfl⟩;have HM2:Hid (fT d m1 d.pg.length=m2):=hm2;rw[hm2] at qv ⊢;clear hm2 x3;go_wp2;go_loopw [0,47] (fun v i w'=>∃ k:Nat,k<=d.fr.length/\i=aa k/\v=.string (fF d m2 k)/\pX w d s w') (fun _ i _=>d.fr.length-(intOf i).toNat);case atStart=>exact ⟨0,bh _,rfl,rfl,xr⟩
   case round=>
   rename_i wr2;obtain ⟨j,hj,rfl,rfl,xq⟩:=hrel;have hvs:=JN d m2 j;by_cases hlt2:j<d.fr.length
   ·obtain ⟨b,off,hab,_,hcell⟩:=(HL.out _ xq.au).r3.get hlt2;have y1:=hcell j hlt2;have HS:Hid (bs (fF d m2 j) (aZ (d.fr.getD j 0)) (bG 16)=fF d m2 (j+1)):=rfl;obtain ⟨z,ez⟩:∃ z,d.fr.getD j 0=z:=⟨_,rfl⟩;rw[ez] at y1 HS;rw[hab];have e1:(0:Int)<=(j:Int):=by omega
    have e2:(j:Int)<(d.fr.length:Int):=by omega
    have hwt:Hid (∀ W,Calls prog 41 #[.string (fF d m2 j),aa (aZ z),.string (bG 16)] W (aV (.string (bs (fF d m2 j) (aZ z) (bG 16))) W)):=fun W=>uY _ _ _ _ (by rw[hvs];omega) adb;clear ez hcell hvs;go_wp2_with (first
     | (go_at_call 17;refine (gP _ _).mono ?_;rintro e w' ⟨rfl,rfl⟩)
     | (go_at_call 42;refine (wR _ _).mono ?_;rintro e w6 ⟨rfl,b6⟩;have x6:=xq.below b6)
     | (go_at_call 41;refine (hwt.out _).mono ?_;rintro e w7 ⟨rfl,b7⟩;have x7:=x6.below b7))
    go_roundw;case rel=>exact ⟨j+1,by omega,by go_num,by rw[HS.out],x7⟩
    case measure=>simp[intOf];omega
   obtain rfl:j=d.fr.length:=by omega
   go_wp2;go_ret;exact ⟨by rw[HM2.out];rfl,xq.au⟩
  ·have g8:((mem.size:Int) != 768)=true:=by simp;omega
   have HU:Hid (gC mem d=mem):=by
    show gC mem d=mem
    rw[gC,aM];rintro ⟨_,h⟩;exact hm h
   rw[HU.out];clear HU hok hm;go_enter func22,ntmps22;go_wp2_with (first
    | (go_at_call 40;refine (HO.out _ x0.au).mono ?_;rintro e w1 ⟨rfl,b1⟩;have x1:=x0.below b1)
    | (go_at_call 21;refine (ze _ _ hms).mono ?_;rintro e w2 ⟨rfl,b2⟩;have x2:=x1.below b2))
   go_ret;exact ⟨rfl,x2.au⟩
end
section
theorem adf (m:ByteArray) (d:ai):(gC m d).size=m.size:=by
 unfold gC;split;·rw[zS,JN,JM,oP]
 rfl
def lr (ds:List ai) (m:ByteArray):Nat->ByteArray
 | 0=>m
 | k+1=>gC (lr ds m k) (aJ ds k)
theorem xu (ds:List ai) (m:ByteArray):∀ k,(lr ds m k).size=m.size
 | 0=>rfl
 | k+1=>by rw[lr,adf,xu ds m k]
def cD (k:bz):ByteArray:=lr k.ds k.mem k.ds.length
structure zT (w:World) (k:bz) (a:Option Addr) (c:Nat) (W:World):Prop where
 arg:az w.heap.size (iZ k a c) W
 au:ah w W
variable {w W W' : World} {k : bz} {a : Option Addr} {c : Nat}
theorem zT.below (h:zT w k a c W) (hb:ah W W'):zT w k a c W':=⟨h.arg.below hb,h.au.trans (hb.mono h.au.size)⟩
theorem FE (w:World) (k:bz) (a:Option Addr) (c:Nat):zT w k a c (w.alloc (.cells #[.string k.mem,.string k.aL,.slice a k.ds.length c,aa k.ck] 28)):=⟨aY (iZ k a c) w 28,aA _ _⟩
def pY (ds:List ai) (ss:Nat->aI):Prop:=∀ j,j<ds.length->iV (aJ ds j) (ss j)/\(aJ ds j).po.length<=1048576/\(aJ ds j).fr.length<=1048576
theorem zU (k:bz) (a:Option Addr) (c:Nat) (ss:Nat->aI) (w:World) (hms:k.mem.size<=281474976710656) (hn:k.ds.length<=1048576) (hF:pY k.ds ss) (hR:cN w a k.ds ss):Calls prog 7 #[bP k a c] w (aV (.string (cD k)) w):=by
 have x0:=FE w k a c;have HL:Hid (∀ W,ah w W->cN W a k.ds ss):=fun W hb=>hR.below hb;have HT:Hid (cD k=lr k.ds k.mem k.ds.length):=rfl;have HF:Hid (pY k.ds ss):=hF;clear hR hF;go_enter func7,ntmps7;go_wp2_with (go_at_call 21;refine (ze _ _ hms).mono ?_;rintro e w2 ⟨rfl,b2⟩;have x2:=x0.below b2;have c2:=x2.arg.c2);go_loopw [3,13] (fun v i w'=>∃ j:Nat,j<=k.ds.length/\i=aa j/\v=.string (lr k.ds k.mem j)/\zT w k a c w') (fun _ i _=>k.ds.length-(intOf i).toNat);case atStart=>exact ⟨0,bh _,rfl,rfl,x2⟩
 case round=>
 obtain ⟨j,hj,rfl,rfl,xr⟩:=hrel;clear x0 x2 c2 b2;have qv:=xu k.ds k.mem j;by_cases hlt:j<k.ds.length
 ·have ls:=(HL.out _ xr.au).sub j hlt;obtain ⟨hf,hpo,hfr⟩:=HF.out j hlt;obtain ⟨b,off,hab,im,hc⟩:=(HL.out _ xr.au).row.get hlt;obtain ⟨y0,y1,y2,y3,y4,y5,y6,y7⟩:=hc j hlt;have HS:Hid (gC (lr k.ds k.mem j) (aJ k.ds j)=lr k.ds k.mem (j+1)):=rfl;obtain ⟨d,ed⟩:∃ d,aJ k.ds j=d:=⟨_,rfl⟩;obtain ⟨s,es⟩:∃ s,ss j=s:=⟨_,rfl⟩;rw[ed,es] at ls hf;rw[ed] at y0 y1 y2 y3 y4 y5 y6 y7 HS hpo hfr;rw[es] at y4 y6 y7;rw[hab];have e1:(0:Int)<=(j:Int):=by omega
  have e2:(j:Int)<(k.ds.length:Int):=by omega
  have HU:Hid (∀ W,ah wr W->Calls prog 22 #[.string (lr k.ds k.mem j),bL d s] W (aV (.string (gC (lr k.ds k.mem j) d)) W)):=fun W hb=>ade _ d s W (by omega) hf hpo hfr (ls.below hb);clear ed es hc ls hf;have hal:=aA wr (.cells (dU d s) 31);have x5:=xr.below hal;go_wp2_with (go_at_call 22;refine (HU.out _ hal).mono ?_;rintro e w1 ⟨rfl,b1⟩;have x6:=x5.below b1);go_roundw;case rel=>exact ⟨j+1,by omega,by go_num,by rw[HS.out],hab ▸ x6⟩
  case measure=>simp[intOf];omega
 obtain rfl:j=k.ds.length:=by omega
 go_wp2;go_ret;exact ⟨by rw[HT.out];rfl,xr.au⟩
end
def ft (zs:List Int) (k:Nat):List Int:=(zs.take k).flatMap fun p=>[p*32,32]
def pZ (zs:List Int) (k:Nat):List Int:=(zs.take k).flatMap fun f=>[aZ f,16]
def lR (d:ai):List Int:=if bZ d then [aZ d.ino,16]++ft d.pg d.pg.length++ft d.po d.po.length++pZ d.fr d.fr.length else []
def sO (d:ai):Nat:=if bZ d then 1+d.pg.length+d.po.length+d.fr.length else 0
theorem Re (zs:List Int) (k:Nat) (h:k<zs.length):ft zs (k+1)=ft zs k ++ [zs.getD k 0*32,32]:=by unfold ft;rw[mq h,List.flatMap_append,fq _ _ h];simp
theorem adg (zs:List Int) (k:Nat) (h:k<zs.length):pZ zs (k+1)=pZ zs k ++ [aZ (zs.getD k 0),16]:=by unfold pZ;rw[mq h,List.flatMap_append,fq _ _ h];simp
def zV (d:ai) (w:World) (e:Ending) (w':World):Prop:=∃ a c,e=.returned (.slice a (sO d) c)/\(lR d).length=sO d*2/\sO d<=c/\aR w.heap.size w' a (lR d)/\ah w w'
theorem adh {d:ai} {w w':World} {a:Option Addr} {c:Nat} (h:bZ d=false) (hb:ah w w'):zV d w (.returned (.slice a 0 c)) w':=by
 have e1:lR d=[]:=by rw[lR,h];rfl
 have e2:sO d=0:=by rw[sO,h];rfl
 exact ⟨a,c,by rw[e2],by rw[e1,e2];rfl,by rw[e2];exact bh _,by rw[e1];exact Or.inl rfl,hb⟩
theorem adi {d:ai} {w w':World} {a:Option Addr} {n c:Nat} {zs:List Int} (h:bZ d=true) (hn:n=1+d.pg.length+d.po.length+d.fr.length) (hz:zs=[aZ d.ino,16]++ft d.pg d.pg.length++ft d.po d.po.length++pZ d.fr d.fr.length) (hbuf:kK (w.heap.size+1) w' a n c zs) (hb:ah w w'):zV d w (.returned (.slice a n c)) w':=by
 have e1:lR d=zs:=by rw[lR,h,hz];rfl
 have e2:sO d=n:=by rw[sO,h,hn];rfl
 exact ⟨a,c,by rw[e2],by rw[e1,e2];exact hbuf.1,by rw[e2];exact hbuf.fits,by rw[e1];exact hbuf.own.mono (by omega),hb⟩
theorem JP {w W W':World} {d:ai} {s:aI} (h:pX w d s W) (hb:Below (w.heap.size+1) W W'):pX w d s W':=⟨⟨gd h.arg.b hb (by omega)⟩,h.au.trans (hb.mono (by omega))⟩
theorem FF {w W:World} {d:ai} {s:aI} (h:pX w d s W):w.heap.size+1<=W.heap.size:=h.arg.b.lt
theorem Rf (d:ai) (s:aI) (w:World) (hF:iV d s) (hpo:d.po.length<=1048576) (hfr:d.fr.length<=1048576) (hR:cJ w d s):Calls prog 144 #[bL d s] w (zV d w):=by
 have x0:=JO w d s;have HL:Hid (∀ W,ah w W->cJ W d s):=fun W hb=>hR.below hb;have HO:Hid (∀ W,ah w W->_):=fun W hb=>BK d s W hF hpo hfr (hR.below hb);have HN:Hid (∀ a c w',bZ d=false->ah w w'->zV d w (.returned (.slice a 0 c)) w'):=fun a c w' h hb=>adh h hb;have HY:Hid (∀ a n c zs w',bZ d=true->n=1+d.pg.length+d.po.length+d.fr.length->zs=[aZ d.ino,16]++ft d.pg d.pg.length++ft d.po d.po.length++pZ d.fr d.fr.length->kK (w.heap.size+1) w' a n c zs->ah w w'->zV d w (.returned (.slice a n c)) w'):=fun a n c zs w' h hn hz hbuf hb=>adi h hn hz hbuf hb;obtain ⟨R,hR'⟩:∃ R,zV d w=R:=⟨_,rfl⟩;rw[hR'] at HN HY ⊢;clear hR hR' hF;cases hok:bZ d with
 | false=>
  rw[hok] at HO;have hok':=hok;clear hok;go_enter func144,ntmps144;go_wp2_with (go_at_call 40;refine (HO.out _ x0.au).mono ?_;rintro e w1 ⟨rfl,b1⟩;have x1:=x0.below b1);exact HN.out _ _ _ hok' (x1.au.alloc x1.au.size _)
 | true=>
  rw[hok] at HO;obtain ⟨-,-,-,-,-,-,rL,pA,hf2,kc,-,-,-⟩:=jt hok;have gY:∀ j,j<d.pg.length->5<=d.pg.getD j 0/\d.pg.getD j 0<=23:=fun j hj=>(nM.1 kc).1 _ (mr.2 (Or.inl (qS hj)));have hpq:∀ j,j<d.po.length->5<=d.po.getD j 0/\d.po.getD j 0<=23:=fun j hj=>(nM.1 kc).1 _ (mr.2 (Or.inr (qS hj)));have HOK:Hid (bZ d=true):=hok;clear hok kc;go_enter func144,ntmps144;go_wp2_with (first
   | (go_at_call 40;refine (HO.out _ x0.au).mono ?_;rintro e w1 ⟨rfl,b1⟩;have x1:=x0.below b1;have c0:=x1.arg.c0;have x2:=x1.below (aA w1 (.cells #[aa (aZ d.ino),aa 16] 183));have c4:=x2.arg.c4;have tB:kK (w.heap.size+1) (w1.alloc (.cells #[aa (aZ d.ino),aa 16] 183)) (some ⟨w1.heap.size,0,none⟩) 1 1 [aZ d.ino,16]:=ab4 w1 _ _ (FF x1))
   | (go_at_call 17;refine (gP _ _).mono ?_;rintro e wq ⟨rfl,rfl⟩))
  obtain ⟨p0,hp0⟩:∃ p0,[aZ d.ino,16]=p0:=⟨_,rfl⟩;have H3:Hid ([aZ d.ino,16]=p0):=hp0;rw[hp0] at tB;clear hp0 c0 c4 x0 x1 b1;go_loopw [3,22] (fun v i w'=>∃ (k0 c:Nat) (a:Option Addr),k0<=d.pg.length/\i=aa k0/\v=.slice a (1+k0) c/\kK (w.heap.size+1) w' a (1+k0) c (p0++ft d.pg k0)/\pX w d s w') (fun _ i _=>d.pg.length-(intOf i).toNat);case atStart=>exact ⟨0,_,_,bh _,rfl,rfl,by rw[show p0++ft d.pg 0=p0 by simp[ft]];exact tB,x2⟩
  case round=>
   obtain ⟨k0,cq0,aq0,hk0,rfl,rfl,WT,AL⟩:=hrel;clear tB x2;have cc0:=AL.arg.c4;by_cases hlt:k0<d.pg.length
   ·obtain ⟨b,off,hab,_,hcell⟩:=(HL.out _ AL.au).r1.get hlt;have y1:=hcell k0 hlt;have hz:=gY k0 hlt;have HS:Hid (p0++ft d.pg k0 ++ [d.pg.getD k0 0*32,32]=p0++ft d.pg (k0+1)):=by show _=_;rw[so,<- Re _ _ hlt]
    obtain ⟨z,ez⟩:∃ z,d.pg.getD k0 0=z:=⟨_,rfl⟩;rw[ez] at y1 HS hz;rw[hab];have e1:(0:Int)<=(k0:Int):=by omega
    have e2:(k0:Int)<(d.pg.length:Int):=by omega
    have hsz:=FF AL;clear ez hcell;go_wp2_with (at_builtin;refine JC rfl (.tmp 26) (.tmp 30) rfl WT _ _ (by rfl) (by rfl) (by omega) hsz ?_;intro g5 cap5 w5 C3 bel5);go_roundw;case rel=>exact ⟨k0+1,cap5,_,by omega,by go_num,by rw[wK],by rw[<- HS.out,<- wK];exact C3,JP AL bel5⟩
    case measure=>simp[intOf];omega
   obtain rfl:k0=d.pg.length:=by omega
   have d0:=AL.arg.c6;go_wp2;go_loopw [3,36] (fun v i w'=>∃ (k1 c:Nat) (a:Option Addr),k1<=d.po.length/\i=aa k1/\v=.slice a ((1+d.pg.length)+k1) c/\kK (w.heap.size+1) w' a ((1+d.pg.length)+k1) c ((p0++ft d.pg d.pg.length)++ft d.po k1)/\pX w d s w') (fun _ i _=>d.po.length-(intOf i).toNat);case atStart=>exact ⟨0,_,_,bh _,rfl,rfl,by rw[show (p0++ft d.pg d.pg.length)++ft d.po 0=(p0++ft d.pg d.pg.length) by simp[ft]];exact WT,AL⟩
   case round=>
   rename_i wr2;obtain ⟨k1,cq1,aq1,hk1,rfl,rfl,Xv,AG⟩:=hrel;skip;have cc1:=AG.arg.c6;by_cases hlt:k1<d.po.length
   ·obtain ⟨b,off,hab,_,hcell⟩:=(HL.out _ AG.au).r2.get hlt;have y1:=hcell k1 hlt;have hz:=hpq k1 hlt;have HS:Hid ((p0++ft d.pg d.pg.length)++ft d.po k1 ++ [d.po.getD k1 0*32,32]=(p0++ft d.pg d.pg.length)++ft d.po (k1+1)):=by show _=_;rw[so,<- Re _ _ hlt]
    obtain ⟨z,ez⟩:∃ z,d.po.getD k1 0=z:=⟨_,rfl⟩;rw[ez] at y1 HS hz;rw[hab];have e1:(0:Int)<=(k1:Int):=by omega
    have e2:(k1:Int)<(d.po.length:Int):=by omega
    have hsz:=FF AG;clear ez hcell;go_wp2_with (at_builtin;refine JC rfl (.tmp 40) (.tmp 44) rfl Xv _ _ (by rfl) (by rfl) (by omega) hsz ?_;intro g5 cap5 w5 C3 bel5);go_roundw;case rel=>exact ⟨k1+1,cap5,_,by omega,by go_num,by rw[wK],by rw[<- HS.out,<- wK];exact C3,JP AG bel5⟩
    case measure=>simp[intOf];omega
   obtain rfl:k1=d.po.length:=by omega
   have d1:=AG.arg.c7;go_wp2;go_loopw [3,50] (fun v i w'=>∃ (k2 c:Nat) (a:Option Addr),k2<=d.fr.length/\i=aa k2/\v=.slice a (((1+d.pg.length)+d.po.length)+k2) c/\kK (w.heap.size+1) w' a (((1+d.pg.length)+d.po.length)+k2) c (((p0++ft d.pg d.pg.length)++ft d.po d.po.length)++pZ d.fr k2)/\pX w d s w') (fun _ i _=>d.fr.length-(intOf i).toNat);case atStart=>exact ⟨0,_,_,bh _,rfl,rfl,by rw[show ((p0++ft d.pg d.pg.length)++ft d.po d.po.length)++pZ d.fr 0=((p0++ft d.pg d.pg.length)++ft d.po d.po.length) by simp[pZ]];exact Xv,AG⟩
   case round=>
   rename_i wr3;obtain ⟨k2,cq2,aq2,hk2,rfl,rfl,tB,DG⟩:=hrel;skip;have cc2:=DG.arg.c7;by_cases hlt:k2<d.fr.length
   ·obtain ⟨b,off,hab,_,hcell⟩:=(HL.out _ DG.au).r3.get hlt;have y1:=hcell k2 hlt;have HS:Hid (((p0++ft d.pg d.pg.length)++ft d.po d.po.length)++pZ d.fr k2 ++ [aZ (d.fr.getD k2 0),16]=((p0++ft d.pg d.pg.length)++ft d.po d.po.length)++pZ d.fr (k2+1)):=by show _=_;rw[so,<- adg _ _ hlt]
    obtain ⟨z,ez⟩:∃ z,d.fr.getD k2 0=z:=⟨_,rfl⟩;rw[ez] at y1 HS;rw[hab];have e1:(0:Int)<=(k2:Int):=by omega
    have e2:(k2:Int)<(d.fr.length:Int):=by omega
    have hsz:=FF DG;clear ez hcell;go_wp2_with (first
     | (go_at_call 17;refine (gP _ _).mono ?_;rintro e wq ⟨rfl,rfl⟩)
     | (at_builtin;refine JC rfl (.tmp 54) (.tmp 58) rfl tB _ _ (by rfl) (by rfl) (by omega) hsz ?_;intro g5 cap5 w5 C3 bel5))
    go_roundw;case rel=>exact ⟨k2+1,cap5,_,by omega,by go_num,by rw[wK],by rw[<- HS.out,<- wK];exact C3,JP DG bel5⟩
    case measure=>simp[intOf];omega
   obtain rfl:k2=d.fr.length:=by omega
   go_wp2;refine HY.out _ _ _ _ _ HOK.out rfl ?_ tB DG.au;rw[H3.out]
section
variable {E : Nat → List aB} {K : Nat → Int} {F : Nat → Nat} {P : Nat → ByteArray} {d k x : Nat}
def kL (E:Nat->List aB):Nat->Nat->ByteArray->Prop
 | x,0,p=>x=0/\p=⟨#[]⟩
 | x,k+1,p=>∃ d q nm,kL E d k q/\((x:Int),nm) ∈ E d/\p=q++(⟨#[47]⟩++nm)
theorem kL.zero {E:Nat->List aB}:kL E 0 0 ⟨#[]⟩:=⟨rfl,rfl⟩
theorem kL.down {E:Nat->List aB} {d k:Nat} {q:ByteArray} {x:Nat} {nm:ByteArray} (h:kL E d k q) (hm:((x:Int),nm) ∈ E d):kL E x (k+1) (q++(⟨#[47]⟩++nm)):=⟨d,q,nm,h,hm,rfl⟩
theorem kL.ind {E:Nat->List aB} {motive:(x k:Nat)->(p:ByteArray)->kL E x k p->Prop} (zero:motive 0 0 ⟨#[]⟩ kL.zero) (down:∀ {d k:Nat} {q:ByteArray} {x:Nat} {nm:ByteArray} (hd:kL E d k q) (hm:((x:Int),nm) ∈ E d),motive d k q hd->motive x (k+1) (q++(⟨#[47]⟩++nm)) (kL.down hd hm)):∀ {x k:Nat} {p:ByteArray} (h:kL E x k p),motive x k p h
 | x,0,p,h=>by obtain ⟨rfl,rfl⟩:=h;exact zero
 | x,k+1,p,h=>by obtain ⟨d,q,nm,hd,hm,rfl⟩:=h;exact down hd hm (kL.ind zero down hd)
def zW (q:ByteArray):ByteArray:=if q.size=0 then ⟨#[47]⟩ else q
theorem Rh (a:ByteArray):a ++ ⟨#[]⟩=a:=by apply kD;simp[pI]
theorem Ri (a:ByteArray):(⟨#[]⟩:ByteArray)++a=a:=by apply kD;simp[pI]
theorem FG (a b c:ByteArray):(a++b)++c=a++(b++c):=by apply kD;simp[pI]
theorem adj (hS:sK E K) {p:ByteArray} (h:fy E x k p):∃ q,kL E x k q/\p=zW q/\(0<x->0<q.size)/\(x=0->q=⟨#[]⟩):=by
 induction h using fy.ind with
 | zero=>exact ⟨⟨#[]⟩,kL.zero,rfl,fun h=>absurd h (by decide),fun _=>rfl⟩
 | @down d k p x nm hd hm ih=>
  obtain ⟨q,hq,hp,h1,h2⟩:=ih;have hx:=(hS.ino _ _ hm).1;have hne:0<(q++((⟨#[47]⟩:ByteArray)++nm)).size:=by rw[ke,ke];have:(⟨#[47]⟩:ByteArray).size=1:=rfl;omega
  refine ⟨_,kL.down hq hm,?_,fun _=>hne,fun e=>?_⟩
  ·rw[zW,aM (by omega)];by_cases h0:d=0
   ·rw[h2 h0] at hp ⊢;rw[hp,jQ,aN h0,Rh,Ri];rfl
   have:=h1 (by omega);rw[zW,aM (by omega)] at hp;rw[hp,jQ,aM h0,FG]
  ·simp only at hx;omega
theorem FH (ht:iz E K=true) (hS:sK E K) {e:aB} (hd:d<8) (he:e ∈ E d):fx (cK E 8) e.1=[(d,e)]:=by
 have hi:=hS.ino _ _ he;obtain ⟨x,hx⟩:∃ x:Nat,e.1=(x:Int):=⟨e.1.toNat,by omega⟩;have m1:(d,e) ∈ fx (cK E 8) e.1:=yX.2 ⟨Fc he hd,by simp⟩;have hone:=zK.1 ht x (by omega) (by omega);rw[hx] at m1 ⊢;unfold mS at hone;simp only[ca,tH,nx] at hone;rcases Fb (cK E 8) x with hp | hp | ⟨p,hp,_⟩
 ·rw[(sG _ _).1 hp] at m1;simp at m1
 ·rcases hone.2 with hk | hr
  ·rw[hk,hp] at hone;simp at hone
  rw[BV _ _ _ (by omega),hp,BS _ _ _ (by decide)] at hr;cases hr
 rw[hp] at m1 ⊢;simp only[pK] at m1;rw[m1]
theorem adk (ht:iz E K=true) (hS:sK E K) {e:aB} (hd:d<8) (he:e ∈ E d):dP (cK E 8) e.1=d/\sF (cK E 8) e.1=e.2:=by have h:=FH ht hS hd he;unfold dP sF;rw[h];exact ⟨rfl,rfl⟩
theorem adl (h:fS E K [] F P) (hS:sK E K) (rX:K 0=2) (ht:iz E K=true) (hx:x<8) (hk:K x≠0):∃ k,k<=8/\fy E x k (P x):=by
 by_cases h0:x=0
 ·subst h0;rw[h.zero];exact ⟨0,by decide,fy.zero⟩
 have hd:=h.done hS rX;rw[ht] at hd;have:=BW.1 hd x (by omega) hx;simp only[sH,dp] at this;rw[aM hk] at this;exact h.at_ x (by omega)
end
section
def qe (x y:Nat) (k:Nat):Bool:=decide (x<=k/\k<=y)
def oQ (x y m:Nat) (k:Nat):Bool:=decide (x<=k/\k<=y/\k<m)
theorem adm {x y k i:Nat} (hi:i≠k):oQ x y k i=oQ x y (k+1) i:=by simp only[oQ];congr 1;apply propext;omega
variable {B : Nat} {w W : World} {a b : ByteArray}
theorem Rj (h:fR B w a b W) (x:ByteArray):fR B w a x (W.setCell ⟨B,1,none⟩ (.string x)):=
  ⟨(gH _ _ _ _ (by simp)).trans h.c0,ov _ _ _ h.c1,(gH _ _ _ _ (by simp)).trans h.r0,(gH _ _ _ _ (by simp)).trans h.r1,
   by rw[iu];exact h.f0,by rw[iu];exact h.f1,by rw[iu];exact h.g0,by rw[iu];exact h.g1,
   by have:=h.lt;simpa [World.setCell] using this,h.au.setCell (p:=⟨B,1,none⟩) (av _) _⟩
theorem adn (n:Int) (h0 : -9223372036854775808<=n) (h1:n<=9223372036854775807):(Lit.int .i64 n).wf=true:=by simp[Lit.wf,IntKind.min,IntKind.max,IntKind.signed,IntKind.bits];omega
theorem ado (a b:ByteArray) (k:Nat) (w:World) (ha:a.size=768) (hb:b.size=768) (hk:k<96):Calls prog 183 #[.agg #[.string a,.string b],aa (k:Int)] w (aV (.agg #[.string a,.string (bs b ((k:Int)*8) (aX a ((k:Int)*8) 8))]) w):=by
 have hF:=xi a b w;have wk:(Lit.int .i64 ((k:Int)*8)).wf=true:=adn _ (by omega) (by omega);have hp:(aX a ((k:Int)*8) 8).size=8:=by rw[QW a k ha hk];show (eU a.data.toList k).toArray.size=8;rw[Bl,eU,jk,kE,<- dX];omega
 obtain ⟨p,kc⟩:∃ p,aX a ((k:Int)*8) 8=p:=⟨_,rfl⟩;rw[kc] at hp ⊢;go_enter func183,ntmps183;go_wp2;obtain ⟨W,hW⟩:∃ W,(w.alloc (.cells #[.string a,.string b] 25)).alloc (.cells #[.string ⟨#[]⟩,.string ⟨#[]⟩] 25)=W:=⟨_,rfl⟩;rw[hW] at hF ⊢;have c0:=hF.c0;have c1:=hF.c1;have g1:=hF.g1;have jA:=hF.drew;have hwr:IntKind.i64.wrap ((k:Int)*8)=(k:Int)*8:=by rw[Be];omega
 have hpt:Hid (∀ W,Calls prog 12 #[.string a,aa ((k:Int)*8),aa 8] W fun e w'=>e=.returned (.string p)/\W=w'):=fun W=>(pM _ _ _ _ (by unfold maxLen;omega) wk rfl).mono fun _ _ h=>⟨by rw[h.1,kc],h.2.symm⟩;clear kc hW;go_region_with (first
  | (go_at_call 12;refine (hpt.out _).mono ?_;rintro e w3 ⟨rfl,rfl⟩)
  | (go_at_call 70;refine (Qd (B:=w.heap.size) (w:=w) (a:=a) (b:=b) _ _ _ (by omega) (by omega) jA).mono ?_;rintro e w4 ⟨rfl,h4⟩;have z0:=h4.c1;have z1:=h4.g1))
 all_goals
  have h5:=Rj h4 (bs b ((k:Int)*8) p);have y0:=h5.c0;have y1:=h5.c1;have y2:=h5.r0;have y3:=h5.r1;have y4:=h5.f0;have y5:=h5.f1;go_wp2;have q:=oJ (a:=a) (b:=bs b ((k:Int)*8) p) y2 y3;exact bF (v:=.agg #[.string a,.string (bs b ((k:Int)*8) p)]) (by simp[results,results183,go_sem,q.1,q.2]) rfl ⟨rfl,h5.done _ _⟩
end
def oR (a b:ByteArray) (i n:Int):Bool:=dY a b && (dq a.size i n && !decide (n=0))
def fC (a b:ByteArray) (i n:Int):ByteArray:=if oR a b i n then ⟨(dZ a.data.toList b.data.toList (qe (i.toNat / 8) ((i.toNat+n.toNat-1) / 8))).toArray⟩ else b
theorem JQ {a b:ByteArray} {i n:Int} (h:oR a b i n=true):(a.size=768/\b.size=768)/\0<=i/\1<=n/\i+n<=768:=by simp only[oR,ca,oy,wI] at h;have h1:=BP h.1;have h2:=su h.2.1;have h3:=h.2.2;refine ⟨h1,?_⟩;omega
theorem adp (la lb:List UInt8) (p:Nat->Bool):(⟨(dZ la lb p).toArray⟩:ByteArray).size=768:=by
 show (dZ la lb p).toArray.size=768
 rw[Bl,ki]
theorem adq (a b:ByteArray) (i n:Int) (w:World) (ha:a.size<=281474976710656) (hb:b.size<=281474976710656) (wi:(Lit.int .i64 i).wf=true) (wn:(Lit.int .i64 n).wf=true):Calls prog 131 #[.agg #[.string a,.string b],aa i,aa n] w (aV (.agg #[.string a,.string (fC a b i n)]) w):=by
 have hF:=xi a b w;have hm:a.size<=maxLen:=by unfold maxLen;omega
 by_cases hok:dY a b=true
 ·by_cases h1n:n<1
  ·have e:fC a b i n=b:=by
    rw[fC,aM];intro h;have:=JQ h;omega
   rw[e];go_enter func131,ntmps131;go_wp2_with (go_at_call 122;refine (zJ _ _ ha hb hF).mono ?_;rintro e w1 ⟨rfl,h1⟩;obtain ⟨d0,d1,d2,d3,d4,d5,d6,d7,d8,d9⟩:=id h1);have q:=oJ (a:=a) (b:=b) d2 d3;exact bF (v:=.agg #[.string a,.string b]) (by simp[results,results131,go_sem,q.1,q.2]) rfl ⟨rfl,h1.done _ _⟩
  by_cases rW:dq a.size i n=true
  ·have hgo:oR a b i n=true:=by rw[oR,hok,rW,bA (by omega:¬ n=0)];rfl
   obtain ⟨⟨Hn,rR⟩,hi,hn,hin⟩:=JQ hgo;have e:fC a b i n=⟨(dZ a.data.toList b.data.toList (qe (i.toNat / 8) ((i.toNat+n.toNat-1) / 8))).toArray⟩:=aN hgo;rw[e];clear e hgo;have hps:((aX a i n).size:Int)=n:=by rw[aX,aN rW,pH];omega
   obtain ⟨m,rfl⟩:∃ m:Nat,i=m:=⟨i.toNat,by omega⟩;obtain ⟨c,rfl⟩:∃ c:Nat,n=c:=⟨n.toNat,by omega⟩;simp only[YQ];have hpn:(((aX a (m:Int) (c:Int)).size:Int) != (c:Int))=false:=by rw[hps];simp
   have hlb:b.data.toList.length=768:=by rw[<- dX];exact rR
   obtain ⟨x,hx⟩:∃ x,m / 8=x:=⟨_,rfl⟩;obtain ⟨y,hy⟩:∃ y,(m+c-1) / 8=y:=⟨_,rfl⟩;rw[hx,hy];have hx':(m:Int) / 8=(x:Int):=by omega
   have hy':((m:Int)+(c:Int)-1) / 8=(y:Int):=by omega
   have hxy:x<=y:=by omega
   have hy95:y<=95:=by omega
   have hpt:Hid (∀ W,Calls prog 12 #[.string a,aa (m:Int),aa (c:Int)] W fun e w'=>e=.returned (.string (aX a (m:Int) (c:Int)))/\W=w'):=fun W=>(pM _ _ _ _ hm wi wn).mono fun _ _ h=>⟨h.1,h.2.symm⟩;clear hps rW;go_enter func131,ntmps131;go_wp2_with (first
    | (go_at_call 122;refine (zJ _ _ ha hb hF).mono ?_;rintro e w1 ⟨rfl,h1⟩;have c0:=h1.c0;have c1:=h1.c1)
    | (go_at_call 12;refine (hpt.out _).mono ?_;rintro e w' ⟨rfl,rfl⟩))
   go_loopw [7] (fun t w'=>∃ k:Nat,x<=k/\k<=y+1/\t=aa k/\fR w.heap.size w a ⟨(dZ a.data.toList b.data.toList (oQ x y k)).toArray⟩ w') (fun t _=>y+1-(intOf t).toNat);case atStart=>
    refine ⟨x,av _,by omega,rfl,?_⟩;rw[QU _ _ hlb (oQ x y x) (fun k _=>bA (by omega)),show (⟨b.data.toList.toArray⟩:ByteArray)=b from Bc b]
    exact h1
   case round=>
   obtain ⟨k,hxk,hky,rfl,rV⟩:=hrel;have z0:=rV.c0;have z1:=rV.c1;clear h1 c0 c1 hF;by_cases hlt:k<=y
   ·have e1:(k:Int)<=(y:Int):=by omega
    have HM:Hid (bs ⟨(dZ a.data.toList b.data.toList (oQ x y k)).toArray⟩ ((k:Int)*8) (aX a ((k:Int)*8) 8)=⟨(dZ a.data.toList b.data.toList (oQ x y (k+1))).toArray⟩):=acP a b.data.toList (oQ x y k) (oQ x y (k+1)) k Hn (by omega) (fun i _ hi=>adm hi) (bK (by omega));have hbs:=adp a.data.toList b.data.toList (oQ x y k);obtain ⟨bk,hbk⟩:∃ bk:ByteArray,(⟨(dZ a.data.toList b.data.toList (oQ x y k)).toArray⟩:ByteArray)=bk:=⟨_,rfl⟩;rw[hbk] at rV z1 HM hbs;have ali:k<96:=by omega
    clear hbk hpt;go_wp2_with (go_at_call 183;refine (ado a bk k _ Hn hbs ali).mono ?_;rintro e w2 ⟨rfl,b2⟩;have h4:=rV.below b2;have v0:=h4.c0;have v1:=h4.c1;have v2:=h4.g0;have v3:=h4.g1);have h5:=Rj (h4.Yy a) (bs bk ((k:Int)*8) (aX a ((k:Int)*8) 8));go_roundw;case rel=>exact ⟨k+1,by omega,by omega,by go_num,by rw[<- HM.out];exact h5⟩
    case measure=>simp[intOf];omega
   obtain rfl:k=y+1:=by omega
   have hmc:=Fx a.data.toList b.data.toList (oQ x y (y+1)) (qe x y) (fun i _=>by simp only[oQ,qe];congr 1;apply propext;omega);rw[hmc] at rV z1;obtain ⟨bk,hbk⟩:∃ bk:ByteArray,(⟨(dZ a.data.toList b.data.toList (qe x y)).toArray⟩:ByteArray)=bk:=⟨_,rfl⟩;rw[hbk] at rV z1;have HB:Hid ((⟨(dZ a.data.toList b.data.toList (qe x y)).toArray⟩:ByteArray)=bk):=hbk;have d2:=rV.r0;have d3:=rV.r1;have d4:=rV.f0;have d5:=rV.f1;clear hbk hmc hpt;go_wp2;have q:=oJ (a:=a) (b:=bk) d2 d3;exact bF (v:=.agg #[.string a,.string bk]) (by simp[results,results131,go_sem,q.1,q.2]) rfl ⟨by rw[HB.out],rV.done _ _⟩
  have LU:dq a.size i n=false:=by simpa using rW
  have e:fC a b i n=b:=by rw[fC,oR,LU,dC,eS];rfl
  rw[e];have hps:((aX a i n).size:Int)=0:=by rw[aX,LU];rfl
  have hpn:(((aX a i n).size:Int) != n)=true:=by rw[hps];simp;omega
  have hpt:Hid (∀ W,Calls prog 12 #[.string a,aa i,aa n] W fun e w'=>e=.returned (.string (aX a i n))/\W=w'):=fun W=>(pM _ _ _ _ hm wi wn).mono fun _ _ h=>⟨h.1,h.2.symm⟩;clear hps rW;go_enter func131,ntmps131;go_wp2_with (first
   | (go_at_call 122;refine (zJ _ _ ha hb hF).mono ?_;rintro e w1 ⟨rfl,h1⟩;obtain ⟨d0,d1,d2,d3,d4,d5,d6,d7,d8,d9⟩:=id h1)
   | (go_at_call 12;refine (hpt.out _).mono ?_;rintro e w' ⟨rfl,rfl⟩))
  have q:=oJ (a:=a) (b:=b) d2 d3;exact bF (v:=.agg #[.string a,.string b]) (by simp[results,results131,go_sem,q.1,q.2]) rfl ⟨rfl,h1.done _ _⟩
 have hok':dY a b=false:=by simpa using hok
 have e:fC a b i n=b:=by rw[fC,oR,hok'];rfl
 rw[e];go_enter func131,ntmps131;go_wp2_with (go_at_call 122;refine (zJ _ _ ha hb hF).mono ?_;rintro e w1 ⟨rfl,h1⟩;obtain ⟨d0,d1,d2,d3,d4,d5,d6,d7,d8,d9⟩:=id h1);have q:=oJ (a:=a) (b:=b) d2 d3;exact bF (v:=.agg #[.string a,.string b]) (by simp[results,results131,go_sem,q.1,q.2]) rfl ⟨rfl,h1.done _ _⟩
end Go.Proofs.YtgpfmgaidbjcpaaGreatDoor
