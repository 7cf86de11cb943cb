/- Joined texts. -/
import Derived.Test.YtidmmopnkjbjoaaGreatDoorJpY
set_option linter.unusedVariables false
set_option linter.unusedSimpArgs false
set_option maxRecDepth 10000
set_option maxHeartbeats 16000000
namespace Go.Proofs.YtidmmopnkjbjoaaGreatDoor
open ChangeShapes WideShapes ChangeAt RowKit
open Go.Proofs.Tryz
abbrev kP (s:ByteArray) (k:Nat):Option UInt8:=s.data.toList[k]?
theorem F5 (s:ByteArray) (i:Int) (t:ByteArray) (k:Nat):kP (bJ s i t) k=if cZ s.size i t.size=true/\i<=(k:Int)/\(k:Int)<i+(t.size:Int) then kP t (k-i.toNat) else kP s k:=by
 unfold bJ kP;by_cases hl:cZ s.size i t.size=true
 ·rw[aF hl];obtain ⟨h0,h1,h2⟩:=si hl;simp only[mz,rX,pE,DT,AR,jQ];have l1:(s.data.toList.take i.toNat).length=i.toNat:=by rw[fO,<- cV];omega
  by_cases ha:(k:Int)<i;·rw[aG (by omega),pK (by omega),tD,aF (by omega)]
  rw[ng (by omega),l1];by_cases hb:(k:Int)<i+(t.size:Int);·rw[aF ⟨hl,by omega,hb⟩,pK (by rw[<- cV];omega)]
  rw[aG (by omega),ng (by rw[<- cV];omega),<- cV,tD];by_cases hk:k<s.size
  ·rw[aF (by omega),qD];congr 1;omega
  rw[aG (by omega),pJ (by rw[<- cV];omega)]
 rw[aG hl,aG (fun h=>hl h.1)]
def jv (m:ByteArray):List (Int × ByteArray)->ByteArray
 | []=>m
 | p :: r=>jv (bJ m p.1 p.2) r
theorem F6 (m:ByteArray):∀ (l r:List (Int × ByteArray)),jv m (l++r)=jv (jv m l) r:=by
 intro l;induction l generalizing m with
 | nil=>intro r;rfl
 | cons p l ih=>intro r;rw[nS,jv,jv,ih]
theorem SU:∀ (l:List (Int × ByteArray)) (m:ByteArray),(jv m l).size=m.size
 | [],m=>rfl
 | p :: r,m=>by rw[jv,SU r,oA]
theorem SV (n k:Nat):∀ (l:List (Int × ByteArray)),(∃ v,∀ m:ByteArray,m.size=n->kP (jv m l) k=v)\/(∀ m:ByteArray,m.size=n->kP (jv m l) k=kP m k)
 | []=>Or.inr fun m _=>rfl
 | p :: r=>by
  rcases SV n k r with ⟨v,hv⟩ | h;·exact Or.inl ⟨v,fun m hm=>hv _ (by rw[oA,hm])⟩
  ·by_cases hc:cZ n p.1 p.2.size=true/\p.1<=(k:Int)/\(k:Int)<p.1+(p.2.size:Int)
   ·left;refine ⟨kP p.2 (k-p.1.toNat),fun m hm=>?_⟩;rw[jv,h _ (by rw[oA,hm]),F5,aF (by rw[hm];exact hc)]
   right;intro m hm;rw[jv,h _ (by rw[oA,hm]),F5,aG (by rw[hm];exact hc)]
theorem F7 (k:Nat):∀ (l:List (Int × ByteArray)) (m:ByteArray),(∀ p ∈ l,¬ (p.1<=(k:Int)/\(k:Int)<p.1+(p.2.size:Int)))->kP (jv m l) k=kP m k
 | [],m,_=>rfl
 | p :: r,m,h=>by have h1:=h p D4;rw[jv,F7 k r _ fun q hq=>h q (tB _ hq),F5,aG (fun x=>h1 x.2)]
def CB (d:ak) (n:Nat):List (Int × ByteArray):=(List.range n).map fun k=>(d.pg.getD k 0*32,aO d.aH ((k:Int)*32) 32)
def CC (d:ak) (n:Nat):List (Int × ByteArray):=(List.range n).map fun k=>(bA (d.fr.getD k 0),bB 16)
theorem SY (d:ak) (m:ByteArray):∀ n,jc d m n=jv m (CB d n)
 | 0=>rfl
 | n+1=>by rw[jc,SY d m n,CB,CB,wF,yN,F6];rfl
theorem SZ (d:ak) (m:ByteArray):∀ n,kJ d m n=jv m (CC d n)
 | 0=>rfl
 | n+1=>by rw[kJ,SZ d m n,CC,CC,wF,yN,F6];rfl
def oG (d:ak):List (Int × ByteArray):=(bA d.ino,d.rc) :: (CB d d.pg.length++CC d d.fr.length)
theorem aet (mem:ByteArray) (d:ak):vE mem d=jv mem (oG d):=by unfold vE oG;rw[jv,F6,SZ,SY]
theorem S4:(bB 16).size=16:=by rw[bB,aF (by decide),ni];rfl
theorem aeu {d:ak} {p:Int × ByteArray} (h:p ∈ CC d d.fr.length):∃ z ∈ d.fr,p.1=bA z/\p.2.size=16:=by obtain ⟨k,hk,rfl⟩:=na.1 h;have hk':=mA.1 hk;exact ⟨d.fr.getD k 0,kz hk',rfl,S4⟩
section
variable {d : ak}
theorem S5 (h:bT d=true):d.rc.size=16:=(yV (iO h).1).1
theorem S6 (h:bT d=true):aJ d=[(bA d.ino,16)]++d.pg.map (fun p=>(p*32,32))++d.po.map (fun p=>(p*32,32))++d.fr.map (fun f=>(bA f,16)):=by unfold aJ;rw[aF h]
theorem aev {z:Int} (h0:0<=z) (h7:z<=7):bA z=32+z*16:=by unfold bA;rw[aF (jE.2 ⟨h0,h7⟩)]
end
def qd (k:aL) (kept:List Int):aL:=⟨dB k.ds (eT k.mem k.ay kept) k.ds.length,fI (dB k.ds (eT k.mem k.ay kept) k.ds.length) (eT k.mem k.ay kept) k.ds k.ds.length,[],k.ck⟩
theorem CD (a b:ByteArray) (kept:List Int):(eT a b kept).size=768:=by
 show (cK _ _ _).toArray.size=768
 rw[nh,ja]
abbrev Kh (k:aL) (a:Option Addr) (c:Nat):List Value:=[.int .i32 1,.int .u32 0,.string k.mem,.string k.ay,.slice a k.ds.length c,.int .i64 k.ck]
theorem aew (k:aL) (P lo:Nat) (a:Option Addr) (c:Nat) (ss:Nat->aA) (ka:Option Addr) (kc:Nat) (kept:List Int) (w:World) (hok:cT k.mem k.ay=true) (hn:k.ds.length<=1048576) (hkn:kept.length<=1048576) (hF:jJ k.ds ss) (hlo:lo<=P) (hL:aZ w a k.ds ss) (hR:aI w ka kept) (hp:av P (Kh k a c) w):Calls prog 18 #[.pointer (some ⟨P,0,none⟩),.slice ka kept.length kc] w fun e w'=>e=.returned (.tuple #[])/\av P (Kh (qd k kept) none 0) w'/\Below lo w w':=by
 obtain ⟨h1,h2⟩:=nW hok;have hpw:=ab9 k.mem k.ay ka kc kept w (by omega) (by omega) hkn hR;rw[show vu k.mem k.ay kept=eT k.mem k.ay kept from aF hok,show vv k.mem k.ay kept=eT k.mem k.ay kept from aF hok] at hpw
 have hsz:=CD k.mem k.ay kept;have HC:Hid (qd k kept=⟨dB k.ds (eT k.mem k.ay kept) k.ds.length,fI (dB k.ds (eT k.mem k.ay kept) k.ds.length) (eT k.mem k.ay kept) k.ds k.ds.length,[],k.ck⟩):=rfl;obtain ⟨p,ep⟩:∃ p,eT k.mem k.ay kept=p:=⟨_,rfl⟩;rw[ep] at hpw hsz HC;have HL:Hid (∀ W,Below w.heap.size w W->aZ W a k.ds ss):=fun W hb=>hL.below hb;have HF:Hid (jJ k.ds ss):=hF;have HP:Hid (av P (Kh k a c) w):=hp;have c2:=hp.c2;have c3:=hp.c3;have hPl:=hp.lt;clear hL hF hR hok ep hp;go_enter func18,ntmps18;go_wp2_with (go_at_call 65;refine hpw.mono ?_;rintro e w1 ⟨rfl,b1⟩;have VT:=aB w1 (.cells #[.string p,.string p] 25);have dv:=bu [.string p,.string p] w1 25;have s1:=b1.size;have M1:Below w.heap.size w (w1.alloc (.cells #[.string p,.string p] 25)):=b1.trans (VT.mono s1);have P1:=HP.out.below M1;have d4:=P1.cell 4 (by simp);simp only[eQ,fP] at d4);have hPD:P<w1.heap.size:=by omega
 go_loopw [22] (fun i w'=>∃ j:Nat,j<=k.ds.length/\i=.int .i64 j/\av w1.heap.size [.string (dB k.ds p j),.string p] w'/\Below w.heap.size w w') (fun i _=>k.ds.length-(intOf i).toNat);case atStart=>exact ⟨0,aS _,rfl,dv,M1⟩
 case round=>
 obtain ⟨j,hj,rfl,jg,hbel⟩:=hrel;clear dv M1 P1 d4 c2 c3 VT hpw;by_cases hlt:j<k.ds.length
 ·have ls:=(HL.out _ hbel).sub j hlt;obtain ⟨hf,hpo,hfr⟩:=HF.out j hlt;obtain ⟨b,off,hab,fW,hc⟩:=(HL.out _ hbel).row.get hlt;obtain ⟨y0,y1,y2,y3,y4,y5,y6,y7⟩:=hc j hlt;have jz:=ml k.ds p j;have hu:dy (dB k.ds p j) (au k.ds j)=dB k.ds p (j+1):=rfl;obtain ⟨d,ed⟩:∃ d,au k.ds j=d:=⟨_,rfl⟩;obtain ⟨s,es⟩:∃ s,ss j=s:=⟨_,rfl⟩;rw[ed,es] at ls hf;rw[ed] at y0 y1 y2 y3 y4 y5 y6 y7 hpo hfr hu;rw[es] at y4 y6 y7;obtain ⟨cur,ec⟩:∃ cur,dB k.ds p j=cur:=⟨_,rfl⟩;rw[ec] at jg jz hu;have HU:Hid (dy cur d=dB k.ds p (j+1)):=hu;have hun:Hid (∀ W,Below wr.heap.size wr W->Calls prog 51 #[.string cur,bH d s] W fun e w'=>e=.returned (.string (dy cur d))/\Below W.heap.size W w'):=fun W hb=>Rc _ d s W (by omega) hf hpo hfr (ls.below hb);obtain ⟨jj,en⟩:∃ jj,dy cur d=jj:=⟨_,rfl⟩;rw[en] at hun HU;rw[hab];have x1:(0:Int)<=(j:Int):=by omega
  have x2:(j:Int)<(k.ds.length:Int):=by omega
  have nb:=aB wr (.cells #[.int .i64 d.ino,.int .i64 d.cl,.int .i64 d.un,.string d.rc,.slice s.a1 d.pg.length s.c1,.string d.aH,.slice s.a2 d.po.length s.c2,.slice s.a3 d.fr.length s.c3] 49);have mU:=jg.below nb;have d0:=mU.c0;have d1:=mU.c1;have Mb:=hbel.trans (nb.mono hbel.size);clear ed es ec en hu hc ls hf;go_wp2_with (go_at_call 51;refine (hun.out _ nb).mono ?_;rintro e w5 ⟨rfl,b5⟩;have fX:=mU.below b5;have M5:=Mb.trans (b5.mono Mb.size);have f0:=fX.c0;have f1:=fX.c1;have g0:=fX.f0;have g1:=fX.f1);have q5:=fX.set 0 (.string jj);have M6:=M5.setCell (p:=⟨w1.heap.size,0,none⟩) (by show w.heap.size<=w1.heap.size;omega) (.string jj);go_roundw;case rel=>exact ⟨j+1,by omega,by go_num,by rw[<- HU.out];exact q5,M6⟩
  case measure=>simp[intOf];omega
 obtain rfl:j=k.ds.length:=by omega
 have hms:=ml k.ds p k.ds.length;obtain ⟨m,em⟩:∃ m,dB k.ds p k.ds.length=m:=⟨_,rfl⟩;rw[em] at jg hms HC;have hmz:m.size=768:=by omega
 have P2:=HP.out.below hbel;have d4:=P2.cell 4 (by simp);simp only[eQ,fP] at d4;clear em;go_wp2;go_loopw [38] (fun i w'=>∃ j:Nat,j<=k.ds.length/\i=.int .i64 j/\av w1.heap.size [.string m,.string (fI m p k.ds j)] w'/\Below w.heap.size w w') (fun i _=>k.ds.length-(intOf i).toNat);case atStart=>exact ⟨0,aS _,rfl,jg,hbel⟩
 case round=>
 obtain ⟨j,hj,rfl,Dr,hbel⟩:=hrel;clear jg P2 d4;by_cases hlt:j<k.ds.length
 ·have ls:=(HL.out _ hbel).sub j hlt;obtain ⟨hf,hpo,hfr⟩:=HF.out j hlt;obtain ⟨b,off,hab,fW,hc⟩:=(HL.out _ hbel).row.get hlt;obtain ⟨y0,y1,y2,y3,y4,y5,y6,y7⟩:=hc j hlt;have hlz:=vI m p k.ds hsz j;have hu:fI m p k.ds (j+1)=dG m (fI m p k.ds j) (aJ (au k.ds j)) (aJ (au k.ds j)).length:=rfl;obtain ⟨d,ed⟩:∃ d,au k.ds j=d:=⟨_,rfl⟩;obtain ⟨s,es⟩:∃ s,ss j=s:=⟨_,rfl⟩;rw[ed,es] at ls hf;rw[ed] at y0 y1 y2 y3 y4 y5 y6 y7 hpo hfr hu;rw[es] at y4 y6 y7;obtain ⟨cur,ec⟩:∃ cur,fI m p k.ds j=cur:=⟨_,rfl⟩;rw[ec] at Dr hlz hu;have HU:Hid (fI m p k.ds (j+1)=dG m cur (aJ d) (aJ d).length):=hu;have hrl:Hid (∀ W,Below wr.heap.size wr W->_):=fun W hb=>Sd m cur d s W hmz hlz hf hpo hfr (ls.below hb);obtain ⟨jj,en⟩:∃ jj,dG m cur (aJ d) (aJ d).length=jj:=⟨_,rfl⟩;rw[en] at hrl HU;rw[hab];have x1:(0:Int)<=(j:Int):=by omega
  have x2:(j:Int)<(k.ds.length:Int):=by omega
  have nb:=aB wr (.cells #[.int .i64 d.ino,.int .i64 d.cl,.int .i64 d.un,.string d.rc,.slice s.a1 d.pg.length s.c1,.string d.aH,.slice s.a2 d.po.length s.c2,.slice s.a3 d.fr.length s.c3] 49);have mU:=Dr.below nb;have d0:=mU.c0;have d1:=mU.c1;have Mb:=hbel.trans (nb.mono hbel.size);clear ed es ec en hu hc ls hf;go_wp2_with (go_at_call 66;refine (hrl.out _ nb).mono ?_;rintro e w5 ⟨rfl,b5⟩;have fX:=mU.below b5;have M5:=Mb.trans (b5.mono Mb.size);have f0:=fX.c0;have f1:=fX.c1;have g0:=fX.f0;have g1:=fX.f1);have q5:=fX.rO (.string m) (.string jj);have M6:=(M5.setCell (p:=⟨w1.heap.size,0,none⟩) (by show w.heap.size<=w1.heap.size;omega) (.string m)).setCell (p:=⟨w1.heap.size,1,none⟩) (by show w.heap.size<=w1.heap.size;omega) (.string jj);go_roundw;case rel=>exact ⟨j+1,by omega,by go_num,by rw[HU.out];exact q5,M6⟩
  case measure=>simp[intOf];omega
 obtain rfl:j=k.ds.length:=by omega
 have d0:=Dr.c0;have d1:=Dr.c1;have P3:=HP.out.below hbel;have e2:=P3.cell 2 (by simp);have e3:=P3.cell 3 (by simp);have e4:=P3.cell 4 (by simp);simp only[eQ,fP] at e2 e3 e4;have i2:=P3.free 2 (by simp);have i3:=P3.free 3 (by simp);have i4:=P3.free 4 (by simp);obtain ⟨u,eu⟩:∃ u,fI m p k.ds k.ds.length=u:=⟨_,rfl⟩;rw[eu] at Dr d1 HC;have P4:=((P3.set 2 (.string m)).set 3 (.string u)).set 4 (.slice none 0 0);have M4:=(((hbel.mono (by omega)).setCell (p:=⟨P,2,none⟩) hlo (.string m)).setCell (p:=⟨P,3,none⟩) hlo (.string u)).setCell (p:=⟨P,4,none⟩) hlo (.slice none 0 0);clear HL HF HP;go_wp2;refine Ny (v:=.tuple #[]) (by simp[results,results18,go_sem]) rfl ?_;exact ⟨rfl,by rw[HC.out];exact P4,M4⟩
theorem aex (k:aL) (kept:List Int) (ka:Option Addr) (kc B:Nat) (w:World) (hz:rf k) (hok:cT k.mem k.ay=true) (hkn:kept.length<=1048576) (hB:av B [.slice ka kept.length kc] w) (hR:aI w ka kept):J1 w k (qd k kept) 17 #[.pointer (some ⟨B,0,none⟩)]:=by
 intro W P a' c' hP hp ho hb;obtain ⟨ss,hL⟩:=ho.eN;have hpc:=aew k P (w.heap.size+3) a' c' ss ka kc kept W hok (by have:=hz.t;omega) hkn (hz.fits ss) hP hL (hR.below hb) hp;have b0:=(hB.below hb).c0;show Calls prog _ #[.pointer (some ⟨P,0,none⟩),.pointer (some ⟨B,0,none⟩)] W _
 clear hp ho hb hL hB hR;go_enter func17,ntmps17;go_wp2_with (go_at_call 18;refine hpc.mono ?_;rintro e w1 ⟨rfl,p1,b1⟩);go_ret;exact ⟨rfl,⟨none,0,p1,Or.inl rfl⟩,b1⟩
def mq (k:aL) (kept:List Int):aL:=if fj k=true then qd k kept else k
theorem S9 {k:aL} (h:fj k=true):cT k.mem k.ay=true:=by unfold fj at h;simp only[cj] at h;exact h.1
abbrev CE (ka:Option Addr) (kn kc:Nat):Obj:=.cells #[.slice ka kn kc] 29
theorem Ta (k:aL) (a:Option Addr) (c:Nat) (s0:Nat->aA) (ka:Option Addr) (kc:Nat) (kept:List Int) (w:World) (hz:rf k) (hkn:kept.length<=1048576) (hL:aZ w a k.ds s0) (hR:aI w ka kept):Calls prog 6 #[aU k a c,.slice ka kept.length kc] w (pX (mq k kept) w):=by
 have x0:=(((aK w.heap.size w).alloc (aq _) (cJ k a c)).alloc (by simp) (CE ka kept.length kc)).alloc (by simp;omega) df;have kb:=(((bu (cU k a c) w 28).alloc (CE ka kept.length kc))).alloc df;have ib:=(gH (B:=w.heap.size+1) [.slice ka kept.length kc] (w.alloc (cJ k a c)) 29 (by simp)).alloc df;have ab:=gH (B:=w.heap.size+1+1) gV ((w.alloc (cJ k a c)).alloc (CE ka kept.length kc)) 28 (by simp);have z0:w.heap.size+3=(((w.alloc (cJ k a c)).alloc (CE ka kept.length kc)).alloc df).heap.size:=by simp
 obtain ⟨W0,hW0⟩:∃ W0,((w.alloc (cJ k a c)).alloc (CE ka kept.length kc)).alloc df=W0:=⟨_,rfl⟩;have hst:Calls prog 16 #[aU k a c,.func (.func 17) #[] #[.pointer (some ⟨w.heap.size+1,0,none⟩)]] W0 (pX (mq k kept) W0):=by
  rw[hW0] at x0 ib;by_cases hok:fj k=true
  ·rw[show mq k kept=qd k kept from aF hok]
   refine adS k (qd k kept) a c _ W0 fun W hb hs=>?_;exact adP k (qd k kept) a c s0 _ W hz hok ((hL.below x0).below hb) (show (qd k kept).ds=[] from rfl) (aex k kept ka kc _ W hz (S9 hok) hkn (ib.below hb) ((hR.below x0).below hb))
  rw[show mq k kept=k from aG hok]
  refine adU k a c _ W0 (fun W hb=>adQ k a c s0 _ W hz (by simpa using hok) ((hL.below x0).below hb)) fun W hb=>?_;exact Qz k a c s0 W (by have:=hz.m;omega) (by have:=hz.d;omega) (by have:=hz.t;omega) hz.small ((hL.below x0).below hb)
 have c0:=kb.c0;have c1:=kb.c1;have c2:=kb.c2;have c3:=kb.c3;rw[hW0] at x0 kb ib ab z0 c0 c1 c2 c3;have hm0:=Sh;obtain ⟨r,hr⟩:∃ r,mq k kept=r:=⟨_,rfl⟩;rw[hr] at hst ⊢;obtain ⟨kn,hkn'⟩:∃ kn,kept.length=kn:=⟨_,rfl⟩;rw[hkn'] at ib hW0 ⊢;clear hL hR hr hkn';unfold pX at hst ⊢;go_enter func6,ntmps6;go_wp2_with (go_at_call 16;refine hst.mono ?_;rintro e w2 ⟨a2,c2',rfl,o2,b2⟩;have n2:=ab.below b2;have M2:=x0.trans (b2.mono x0.size);have y0:=n2.c0;have y1:=n2.c1;have y2:=n2.c2;have y3:=n2.c3;have g0:=n2.f0;have g1:=n2.f1;have g2:=n2.f2;have g3:=n2.f3);obtain ⟨q1,q2,q3⟩:=J2 r a2 c2' n2 o2 (A:=w.heap.size+1+1) (lo':=w.heap.size) (by omega) (by omega) M2 (by omega);have v0:=q1.c0;have v1:=q1.c1;have v2:=q1.c2;have v3:=q1.c3;exact bL (v:=aU r a2 c2') (by simp[results,results6,go_sem,v0,v1,v2,v3]) rfl ⟨a2,c2',rfl,q2,q3⟩
theorem aey {k:aL} (h:fj k=true):0<=k.ck/\k.ck<=999999:=by unfold fj at h;simp only[cj,lV,qy] at h;omega
abbrev Tc (m du:ByteArray) (ck:Int) (a:Option Addr) (c:Nat):Value:=.agg #[.string m,.string du,.slice a 0 c,ad ck]
def xO:ByteArray:=bJ (sJ 9) (bA 0) (dO 2 9 32 [5])
def xP:ByteArray:=bJ xO 160 (gu [(1,⟨#[97]⟩),(2,⟨#[98]⟩)])
def xQ:ByteArray:=bJ xP (bA 1) (dO 1 1 40 [7,6])
def xR:ByteArray:=bJ xQ (bA 2) (dO 2 2 0 [])
def mO:ByteArray:=bJ xR 192 ⟨#[115,111,109,101,32,119,111,114,100,115,32,111,102,32,97,32,102,105,108,101,32,116,104,97,116,32,119,97,115,32,104,101,114,101]⟩
theorem aez (w:World) (x y:Int):aI (w.alloc (.cells #[ad x,ad y] 3)) (some ⟨w.heap.size,0,none⟩) [x,y]:=wR (bu (bU [x,y]) w 3)
theorem aeA (w:World) (x y:Int) (s t:ByteArray):mE (w.alloc (.cells #[ad x,.string s,ad y,.string t] 147)) (some ⟨w.heap.size,0,none⟩) [(x,s),(y,t)]:=by
 have k:=bu [ad x,.string s,ad y,.string t] w 147;refine Or.inr ⟨w.heap.size,0,rfl,k.lt,fun j hj=>?_⟩;have hj:j<2:=by simpa using hj
 match j,hj with
 | 0,_=>exact ⟨k.c0,k.c1⟩
 | 1,_=>exact ⟨k.c2,k.c3⟩
theorem aeB (w:World) (h0:(sJ 9).size=768) (h1:xO.size=768) (h2:xP.size=768) (h3:xQ.size=768) (h4:xR.size=768) (h5:mO.size=768):Calls prog 52 #[] w (aT (Tc mO mO 0 none 0) w):=by
 have k0:=bu gV w 28;have n0:=aB w df;obtain ⟨W0,hW0⟩:∃ W0,w.alloc df=W0:=⟨_,rfl⟩;rw[hW0] at k0 n0;have HF:Hid (∀ W,_):=fun W=>acj 9 W;have HW:Hid (∀ s i t W,s.size=768->t.size<=1000->Calls prog 60 #[.string s,ad i,.string t] W (aT (.string (bJ s i t)) W)):=fun s i t W hs ht=>(sk s i t W (by omega) (by omega)).mono fun e w' ⟨he,n,hn⟩=>⟨he,by rw[hn];exact cL (aK _ _) n⟩;have HD:Hid (∀ W,Calls prog 113 #[.string mO] W (aT (.tuple #[.agg #[.string mO,.string mO],.bool true]) W)):=fun W=>by have:=YO mO W (by omega);rwa [show BB mO=.tuple #[.agg #[.string mO,.string mO],.bool true] by simp[BB,h5]] at this
 have UZ:Hid (∀ (W:World) H,W.heap.size=H->Calls prog 111 #[bO 2 9 32 (some ⟨H,0,none⟩) 1 1] (W.alloc (.cells #[ad 5] 3)) (aT (.string (dO 2 9 32 [5])) (W.alloc (.cells #[ad 5] 3)))):=fun W H hH=>by subst hH;exact Bz 2 9 32 _ 1 [5] _ (by simp) (by simp) (qW W 5)
 have Ur:Hid (∀ (W:World) H,W.heap.size=H->Calls prog 111 #[bO 1 1 40 (some ⟨H,0,none⟩) 2 2] (W.alloc (.cells #[ad 7,ad 6] 3)) (aT (.string (dO 1 1 40 [7,6])) (W.alloc (.cells #[ad 7,ad 6] 3)))):=fun W H hH=>by subst hH;exact Bz 1 1 40 _ 2 [7,6] _ (by simp) (by simp) (aez W 7 6)
 have VV:Hid (∀ W,_):=fun W=>Bz 2 2 0 none 0 [] W (by simp) (by simp) (Or.inl rfl);have Uo:Hid (∀ (W:World) H,W.heap.size=H->Calls prog 112 #[bg H 2 2] (W.alloc (.cells #[ad 1,.string ⟨#[97]⟩,ad 2,.string ⟨#[98]⟩] 147)) (aT (.string (gu [(1,⟨#[97]⟩),(2,⟨#[98]⟩)])) (W.alloc (.cells #[ad 1,.string ⟨#[97]⟩,ad 2,.string ⟨#[98]⟩] 147)))):=fun W H hH=>by
  subst hH;exact OH _ 2 [(1,⟨#[97]⟩),(2,⟨#[98]⟩)] _ (by simp) (by simp) (fun j hj=>by
   have hj:j<2:=by simpa using hj
   match j,hj with
   | 0,_=>decide
   | 1,_=>decide) (aeA W 1 2 _ _)
 have hp1:(dO 2 9 32 [5]).size<=1000:=by decide +kernel
 have hp2:(gu [(1,⟨#[97]⟩),(2,⟨#[98]⟩)]).size<=1000:=by decide +kernel
 have hp3:(dO 1 1 40 [7,6]).size<=1000:=by decide +kernel
 have wu:(dO 2 2 0 []).size<=1000:=by decide +kernel
 have HW1:Hid (∀ W,Calls prog 60 #[.string (sJ 9),ad (bA 0),.string (dO 2 9 32 [5])] W (aT (.string xO) W)):=fun W=>HW.out _ _ _ W h0 hp1;have HW2:Hid (∀ W,Calls prog 60 #[.string xO,ad 160,.string (gu [(1,⟨#[97]⟩),(2,⟨#[98]⟩)])] W (aT (.string xP) W)):=fun W=>HW.out _ _ _ W h1 hp2;have HW3:Hid (∀ W,Calls prog 60 #[.string xP,ad (bA 1),.string (dO 1 1 40 [7,6])] W (aT (.string xQ) W)):=fun W=>HW.out _ _ _ W h2 hp3;have GB:Hid (∀ W,Calls prog 60 #[.string xQ,ad (bA 2),.string (dO 2 2 0 [])] W (aT (.string xR) W)):=fun W=>HW.out _ _ _ W h3 wu;have Lg:Hid (∀ W,Calls prog 60 #[.string xR,ad 192,.string ⟨#[115,111,109,101,32,119,111,114,100,115,32,111,102,32,97,32,102,105,108,101,32,116,104,97,116,32,119,97,115,32,104,101,114,101]⟩] W (aT (.string mO) W)):=fun W=>HW.out _ _ _ W h4 (by show 34<=1000;omega);obtain ⟨f9,e9⟩:∃ f9,sJ 9=f9:=⟨_,rfl⟩;obtain ⟨i1,e1⟩:∃ i1,dO 2 9 32 [5]=i1:=⟨_,rfl⟩;obtain ⟨i2,e2⟩:∃ i2,gu [(1,⟨#[97]⟩),(2,⟨#[98]⟩)]=i2:=⟨_,rfl⟩;obtain ⟨i3,e3⟩:∃ i3,dO 1 1 40 [7,6]=i3:=⟨_,rfl⟩;obtain ⟨i4,e4⟩:∃ i4,dO 2 2 0 []=i4:=⟨_,rfl⟩;rw[e9] at HF HW1;rw[e1] at UZ HW1;rw[e2] at Uo HW2;rw[e3] at Ur HW3;rw[e4] at VV GB;obtain ⟨m1,g1⟩:∃ m,xO=m:=⟨_,rfl⟩;obtain ⟨m2,g2⟩:∃ m,xP=m:=⟨_,rfl⟩;obtain ⟨m3,g3⟩:∃ m,xQ=m:=⟨_,rfl⟩;obtain ⟨m4,g4⟩:∃ m,xR=m:=⟨_,rfl⟩;obtain ⟨m5,g5⟩:∃ m,mO=m:=⟨_,rfl⟩;rw[g1] at HW1 HW2;rw[g2] at HW2 HW3;rw[g3] at HW3 GB;rw[g4] at GB Lg;rw[g5] at Lg HD ⊢;clear e9 e1 e2 e3 e4 g1 g2 g3 g4 g5 h0 h1 h2 h3 h4 h5 hp1 hp2 hp3 wu HW;have l:=aK W0.heap.size W0;go_enter func52,ntmps52;go_wp2_with (first
  | (go_at_call 110;refine (HF.out _).mono ?_;rintro e w1 ⟨rfl,b1⟩;replace l:=l.trans (b1.mono l.size))
  | (go_at_call 73;refine (tI _ _).mono ?_;rintro e wr ⟨rfl,hwr⟩;subst wr)
  | (go_at_call 111;have t:=q3;refine (VV.out _).mono ?_;rintro e w7 ⟨rfl,b7⟩;replace l:=l.trans (b7.mono l.size))
  | (go_at_call 111;have t:=q2;refine (Ur.out _ _ rfl).mono ?_;rintro e w5 ⟨rfl,b5⟩;replace l:=(l.alloc l.size (.cells #[ad 7,ad 6] 3)).trans (b5.mono (l.alloc l.size (.cells #[ad 7,ad 6] 3)).size))
  | (go_at_call 111;refine (UZ.out _ _ rfl).mono ?_;rintro e w2 ⟨rfl,b2⟩;replace l:=(l.alloc l.size (.cells #[ad 5] 3)).trans (b2.mono (l.alloc l.size (.cells #[ad 5] 3)).size))
  | (go_at_call 112;refine (Uo.out _ _ rfl).mono ?_;rintro e w4 ⟨rfl,b4⟩;replace l:=(l.alloc l.size (.cells #[ad 1,.string ⟨#[97]⟩,ad 2,.string ⟨#[98]⟩] 147)).trans (b4.mono (l.alloc l.size (.cells #[ad 1,.string ⟨#[97]⟩,ad 2,.string ⟨#[98]⟩] 147)).size))
  | (go_at_call 60;have t:=q4;refine (Lg.out _).mono ?_;rintro e wa ⟨rfl,ba⟩;replace l:=l.trans (ba.mono l.size))
  | (go_at_call 60;have t:=q3;refine (GB.out _).mono ?_;rintro e w8 ⟨rfl,b8⟩;replace l:=l.trans (b8.mono l.size);have q4:True:=trivial)
  | (go_at_call 60;have t:=q2;refine (HW3.out _).mono ?_;rintro e w6 ⟨rfl,b6⟩;replace l:=l.trans (b6.mono l.size);have q3:True:=trivial)
  | (go_at_call 60;have t:=q1;refine (HW2.out _).mono ?_;rintro e w5' ⟨rfl,b5'⟩;replace l:=l.trans (b5'.mono l.size);have q2:True:=trivial)
  | (go_at_call 60;refine (HW1.out _).mono ?_;rintro e w3 ⟨rfl,b3⟩;replace l:=l.trans (b3.mono l.size);have q1:True:=trivial)
  | (go_at_call 113;refine (HD.out _).mono ?_;rintro e wb ⟨rfl,bb⟩;replace l:=l.trans (bb.mono l.size);have kk:=(k0.below (l.alloc l.size (.cells #[.string m5,.string m5] 25)));have ll:=l.alloc l.size (.cells #[.string m5,.string m5] 25);have y0:=kk.c0;have y1:=kk.c1;have y2:=kk.c2;have y3:=kk.c3;have f0:=kk.f0;have f1:=kk.f1;have f2:=kk.f2;have f3:=kk.f3))
 have q:=kk.eU (.string m5) (.string m5) (.slice none 0 0) (ad 0);have v0:=q.c0;have v1:=q.c1;have v2:=q.c2;have v3:=q.c3;have l2:=n0.trans (ll.mono n0.size);exact bL (v:=Tc m5 m5 0 none 0) (by simp[results,results52,go_sem,v0,v1,v2,v3]) rfl ⟨rfl,(((l2.setCell (p:=⟨w.heap.size,0,none⟩) (aq _) _).setCell (p:=⟨w.heap.size,1,none⟩) (aq _) _).setCell (p:=⟨w.heap.size,2,none⟩) (aq _) _).setCell (p:=⟨w.heap.size,3,none⟩) (aq _) _⟩
section
def kQ (lo B:Nat) (W:World) (a:Option Addr) (zs:List Int):Prop:=zs=[]\/∃ g,a=some ⟨g,0,none⟩/\lo<g/\g≠B/\av g (bU zs) W
variable {lo B : Nat} {w0 w W W' : World} {a : Option Addr} {zs : List Int} {c len cap : Nat} {al : Option Addr} {d d' : ak} {s s' : aA}
theorem kQ.below (h:kQ lo B W a zs) (hb:Below W.heap.size W W'):kQ lo B W' a zs:=h.imp id fun ⟨g,e,h1,h2,k⟩=>⟨g,e,h1,h2,k.below hb⟩
theorem kQ.grown (h:kQ lo B W a zs) (hg:W.grownBy W' (some c)) (hc:c<=lo):kQ lo B W' a zs:=h.imp id fun ⟨g,e,h1,h2,k⟩=>⟨g,e,h1,h2,Ca k hg (by omega)⟩
theorem kQ.mw (h:kQ lo B W a zs) (j:Nat) (v:Value):kQ lo B (W.setCell ⟨B,j,none⟩ v) a zs:=h.imp id fun ⟨g,e,h1,h2,k⟩=>⟨g,e,h1,h2,k.aR (fun e=>h2 e.symm) j v⟩
theorem Ki (h:aQ (lo+1) W a zs) (hB:W.heap.size<=B):kQ lo B W a zs:=h.imp id fun ⟨g,e,h1,k⟩=>⟨g,e,by omega,by have:=k.lt;omega,k⟩
structure uh (d:ak):Prop where
 ino:(Lit.int .i64 d.ino).wf=true
 cl:(Lit.int .i64 d.cl).wf=true
 pg:d.pg.length<=6
 rc:d.rc.size<=768
 aH:d.aH.size<=400
 po:d.po.length<=3
 fr:d.fr.length<=2
structure gW (w0 w:World) (c:Nat) (al:Option Addr) (len cap B:Nat) (d:ak) (s:aA) (W:World):Prop where
 res:av w.heap.size [.int .i64 0,.int .i64 0,.int .i64 0,.string ⟨#[]⟩,.slice none 0 0,.string ⟨#[]⟩,.slice none 0 0,.slice none 0 0] W
 lb:av B (eI d s) W
 p1:kQ w.heap.size B W s.a1 d.pg
 p2:kQ w.heap.size B W s.a2 d.po
 p3:kQ w.heap.size B W s.a3 d.fr
 st:cA w0 W c al len cap
 g:w.grownBy W (some c)
 lt:w.heap.size<B
theorem gW.below (h:gW w0 w c al len cap B d s W) (hb:Below W.heap.size W W'):gW w0 w c al len cap B d s W':=⟨h.res.below hb,h.lb.below hb,h.p1.below hb,h.p2.below hb,h.p3.below hb,h.st.below hb,om h.g hb,h.lt⟩
theorem gW.grown (h:gW w0 w c al len cap B d s W) (hc:c<w.heap.size) (hs:cA w0 W' c al len cap) (hg:W.grownBy W' (some c)):gW w0 w c al len cap B d s W':=⟨Ca h.res hg (by omega),Ca h.lb hg (by have:=h.lt;omega),h.p1.grown hg (by omega),h.p2.grown hg (by omega),h.p3.grown hg (by omega),hs,pU h.g hg,h.lt⟩
theorem rh (h:cA w0 W c al len cap) {R:Nat} (h1:w0.heap.size<=R) (h2:c≠R) (j:Nat) (v:Value):cA w0 (W.setCell ⟨R,j,none⟩ v) c al len cap:=h.grown (BQ (E8 _ _) v) h2 h1
theorem gW.set (h:gW w0 w c al len cap B d s W) (hc:c<w.heap.size) (h0:w0.heap.size<=c) (j:Nat) (v:Value) (hv:(eI d s).set j v=eI d' s') (q1:kQ w.heap.size B (W.setCell ⟨B,j,none⟩ v) s'.a1 d'.pg) (q2:kQ w.heap.size B (W.setCell ⟨B,j,none⟩ v) s'.a2 d'.po) (q3:kQ w.heap.size B (W.setCell ⟨B,j,none⟩ v) s'.a3 d'.fr):gW w0 w c al len cap B d' s' (W.setCell ⟨B,j,none⟩ v):=by have hl:=h.lt;have q:=h.lb.set j v;rw[hv] at q;exact ⟨h.res.aR (by omega) j v,q,q1,q2,q3,rh h.st (by omega) (by omega) j v,qU h.g (by omega),hl⟩
theorem gW.agm (h:gW w0 w c al len cap B d s W) (hc:c<w.heap.size) (h0:w0.heap.size<=c) (xs:List Int):gW w0 w c al len cap B { d with po:=xs } { s with a2:=some ⟨W.heap.size,0,none⟩,c2:=xs.length } ((W.setCell ⟨B,6,none⟩ (.slice (some ⟨W.heap.size,0,none⟩) xs.length xs.length)).alloc (.cells (bU xs).toArray 3)):=by have hl:=h.lt;have hBW:=h.lb.lt;have hr:=h.res.lt;exact ⟨(h.res.aR (by omega) 6 _).alloc _,(h.lb.set 6 _).alloc _,(h.p1.mw 6 _).below (aB _ _),Or.inr ⟨W.heap.size,rfl,hr,by omega,gH (B:=W.heap.size) (bU xs) _ 3 (by simp)⟩,(h.p3.mw 6 _).below (aB _ _),(rh h.st (by omega) (by omega) 6 _).below (aB _ _),om (qU h.g (by omega)) (aB _ _),hl⟩
theorem gW.ahl (h:gW w0 w c al len cap B d s W) (hc:c<w.heap.size) (h0:w0.heap.size<=c) (xs:List Int):gW w0 w c al len cap B { d with fr:=xs } { s with a3:=some ⟨W.heap.size,0,none⟩,c3:=xs.length } ((W.setCell ⟨B,7,none⟩ (.slice (some ⟨W.heap.size,0,none⟩) xs.length xs.length)).alloc (.cells (bU xs).toArray 3)):=by have hl:=h.lt;have hBW:=h.lb.lt;have hr:=h.res.lt;exact ⟨(h.res.aR (by omega) 7 _).alloc _,(h.lb.set 7 _).alloc _,(h.p1.mw 7 _).below (aB _ _),(h.p2.mw 7 _).below (aB _ _),Or.inr ⟨W.heap.size,rfl,hr,by omega,gH (B:=W.heap.size) (bU xs) _ 3 (by simp)⟩,(rh h.st (by omega) (by omega) 7 _).below (aB _ _),om (qU h.g (by omega)) (aB _ _),hl⟩
theorem kQ.Mp (h:kQ lo B W a zs) (y0 y1 y2 y3 y4 y5 y6 y7:Value):aQ lo (((((((((W.setCell ⟨lo,0,none⟩ y0).setCell ⟨lo,1,none⟩ y1).setCell ⟨lo,2,none⟩ y2).setCell ⟨lo,3,none⟩ y3).setCell ⟨lo,4,none⟩ y4).setCell ⟨lo,5,none⟩ y5).setCell ⟨lo,6,none⟩ y6).setCell ⟨lo,7,none⟩ y7)) a zs:=h.imp id fun ⟨g,e,h1,h2,k⟩=>⟨g,e,by omega,pQ k (by omega) y0 y1 y2 y3 y4 y5 y6 y7⟩
theorem gW.fin (h:gW w0 w c al len cap B d s W) (hc:c<w.heap.size) (h0:w0.heap.size<=c) (y0 y1 y2 y3 y4 y5 y6 y7:Value):Cx w.heap.size (((((((((W.setCell ⟨w.heap.size,0,none⟩ y0).setCell ⟨w.heap.size,1,none⟩ y1).setCell ⟨w.heap.size,2,none⟩ y2).setCell ⟨w.heap.size,3,none⟩ y3).setCell ⟨w.heap.size,4,none⟩ y4).setCell ⟨w.heap.size,5,none⟩ y5).setCell ⟨w.heap.size,6,none⟩ y6).setCell ⟨w.heap.size,7,none⟩ y7)) d s/\cA w0 (((((((((W.setCell ⟨w.heap.size,0,none⟩ y0).setCell ⟨w.heap.size,1,none⟩ y1).setCell ⟨w.heap.size,2,none⟩ y2).setCell ⟨w.heap.size,3,none⟩ y3).setCell ⟨w.heap.size,4,none⟩ y4).setCell ⟨w.heap.size,5,none⟩ y5).setCell ⟨w.heap.size,6,none⟩ y6).setCell ⟨w.heap.size,7,none⟩ y7)) c al len cap/\w.grownBy (((((((((W.setCell ⟨w.heap.size,0,none⟩ y0).setCell ⟨w.heap.size,1,none⟩ y1).setCell ⟨w.heap.size,2,none⟩ y2).setCell ⟨w.heap.size,3,none⟩ y3).setCell ⟨w.heap.size,4,none⟩ y4).setCell ⟨w.heap.size,5,none⟩ y5).setCell ⟨w.heap.size,6,none⟩ y6).setCell ⟨w.heap.size,7,none⟩ y7)) (some c):=
  ⟨⟨h.p1.Mp y0 y1 y2 y3 y4 y5 y6 y7,h.p2.Mp y0 y1 y2 y3 y4 y5 y6 y7,h.p3.Mp y0 y1 y2 y3 y4 y5 y6 y7⟩,
   rh (rh (rh (rh (rh (rh (rh (rh h.st (by omega) (by omega) 0 y0) (by omega) (by omega) 1 y1) (by omega) (by omega) 2 y2) (by omega) (by omega) 3 y3) (by omega) (by omega) 4 y4) (by omega) (by omega) 5 y5) (by omega) (by omega) 6 y6) (by omega) (by omega) 7 y7,
   qU (qU (qU (qU (qU (qU (qU (qU h.g (aq _)) (aq _)) (aq _)) (aq _)) (aq _)) (aq _)) (aq _)) (aq _)⟩
theorem aeC {z:Int} (hz:(Lit.int .i64 z).wf=true):∀ v ∈ (#[Value.int .i64 0,Value.int .i64 7,Value.int .i64 8,Value.int .i64 z]:Array Value).toList,qT v:=by
 intro v hv;simp at hv;rcases hv with rfl | rfl | rfl | rfl;·exact tQ (by omega) (by omega)
 ·exact tQ (by omega) (by omega)
 ·exact tQ (by omega) (by omega)
 exact ⟨z,hz,rfl⟩
theorem aeD:∀ v ∈ (#[Value.int .i64 0,Value.int .i64 1,Value.int .i64 2,Value.int .i64 0]:Array Value).toList,qT v:=by intro v hv;simp at hv;rcases hv with rfl | rfl | rfl | rfl <;> exact tQ (by omega) (by omega)
theorem aeE:∀ v ∈ (#[Value.int .i64 4,Value.int .i64 24,Value.int .i64 5,Value.int .i64 23]:Array Value).toList,qT v:=by intro v hv;simp at hv;rcases hv with rfl | rfl | rfl | rfl <;> exact tQ (by omega) (by omega)
theorem aeF:∀ v ∈ (#[Value.int .i64 (-1),Value.int .i64 8,Value.int .i64 9]:Array Value).toList,qT v:=by intro v hv;simp at hv;rcases hv with rfl | rfl | rfl <;> exact tQ (by omega) (by omega)
theorem aeG {t:ByteArray} (h:t.size<=300):(t ++ ⟨#[120]⟩).size<=400:=by rw[fk];have:(⟨#[120]⟩:ByteArray).size=1:=rfl;omega
theorem aeH:(bB 16).size<=768:=by
 unfold bB;split;·rw[ni];decide
 exact aS _
theorem aeI (mem:ByteArray) (hm:mem.size<=768) (hcode:kD w0 al len) (h:cA w0 w c al len cap) (hlen:len<=1048576):Calls prog 62 #[.pointer (some ⟨c,0,none⟩),.string mem] w fun e w'=>∃ d s,e=.returned (bH d s)/\uh d/\Cx w.heap.size w' d s/\cA w0 w' c al len cap/\w.grownBy w' (some c):=by
 have hcl:=h.cur.lt;have hn0:=h.new;have n0:=aB w (.cells #[.int .i64 0,.int .i64 0,.int .i64 0,.string ⟨#[]⟩,.slice none 0 0,.string ⟨#[]⟩,.slice none 0 0,.slice none 0 0] 49);have v0:=bu [.int .i64 0,.int .i64 0,.int .i64 0,.string ⟨#[]⟩,.slice none 0 0,.string ⟨#[]⟩,.slice none 0 0,.slice none 0 0] w 49;have h0:=h.below n0;have g0:w.grownBy (w.alloc (.cells #[.int .i64 0,.int .i64 0,.int .i64 0,.string ⟨#[]⟩,.slice none 0 0,.string ⟨#[]⟩,.slice none 0 0,.slice none 0 0] 49)) (some c):=zC n0;go_enter func62,ntmps62;go_upto_region 1 with (fail);generalize (w.alloc (.cells #[.int .i64 0,.int .i64 0,.int .i64 0,.string ⟨#[]⟩,.slice none 0 0,.string ⟨#[]⟩,.slice none 0 0,.slice none 0 0] 49))=V0 at v0 h0 g0 n0 ⊢;go_upto_region 2 with (first
  | (go_at_call 58;refine (xn hcode h0 hlen aeD (show 0<4 by decide) (show 4<=100 by decide)).mono ?_;rintro e w1 ⟨⟨z1,wz1,rfl⟩,s1,g1⟩;have We:=pU (om g0 (aB _ _)) g1;have v1:=Ca (v0.below (aB _ _)) g1 (by omega))
  | (go_at_call 53;refine (sL hcode s1 hlen 2 (by omega) (by omega)).mono ?_;rintro e w2 ⟨⟨x2,x20,x21,rfl⟩,s2,g2⟩;have Vq:=pU We g2;have v2:=Ca v1 g2 (by omega);have hx2:IntKind.i64.wrap (1+x2)=1+x2:=xm _ (by omega) (by omega))
  | (go_at_call 121;refine (adN mem _ _ _ hm).mono ?_;rintro e w3 ⟨d,s,rfl,hd,l1,l2,l3,l4,l5,lw,b3⟩;have Li:(Lit.int .i64 (1+x2)).wf=true:=(Jc _ (by omega) (by omega));have sm:uh d:=⟨(by rw[hd.1];exact wz1),(by rw[hd.2];first | exact Li | (rw[hx2];exact Li)),l1,l2,(by omega),l4,l5⟩;clear hd Li;have s3:=s2.below b3;have UA:=om Vq b3;have v3:=v2.below b3))
 have hv2:=v2.lt;have n4:=aB w3 (.cells #[.int .i64 d.ino,.int .i64 d.cl,.int .i64 d.un,.string d.rc,.slice s.a1 d.pg.length s.c1,.string d.aH,.slice s.a2 d.po.length s.c2,.slice s.a3 d.fr.length s.c3] 49);have q4:gW w0 w c al len cap w3.heap.size d s (w3.alloc (.cells #[.int .i64 d.ino,.int .i64 d.cl,.int .i64 d.un,.string d.rc,.slice s.a1 d.pg.length s.c1,.string d.aH,.slice s.a2 d.po.length s.c2,.slice s.a3 d.fr.length s.c3] 49)):=⟨v3.below n4,bu (eI d s) w3 49,(Ki (lw.o1.mono (by omega)) (aq _)).below n4,(Ki (lw.o2.mono (by omega)) (aq _)).below n4,(Ki (lw.o3.mono (by omega)) (aq _)).below n4,s3.below n4,om UA n4,v3.lt⟩;generalize (w3.alloc (.cells #[.int .i64 d.ino,.int .i64 d.cl,.int .i64 d.un,.string d.rc,.slice s.a1 d.pg.length s.c1,.string d.aH,.slice s.a2 d.po.length s.c2,.slice s.a3 d.fr.length s.c3] 49))=W4 at q4 ⊢;generalize w3.heap.size=B at q4 ⊢;clear n4 v3 v2 v1 v0 h0 g0 s1 s2 s3 We Vq UA g1 g2 b3 lw n0;go_upto_region 3 with (go_at_call 53;refine (sL hcode q4.st hlen 16 (by omega) (by omega)).mono ?_;rintro e w5 ⟨⟨x,x0,x1,rfl⟩,s5,g5⟩;have q5:=q4.grown hcl s5 g5);clear q4 s5 g5;by_cases e0:x=0
 ·subst e0;go_upto_region 15 with (go_at_call 58;refine (xn hcode q5.st hlen aeE (show 0<4 by decide) (show 4<=100 by decide)).mono ?_;rintro e w6 ⟨⟨z,wz,rfl⟩,s6,g6⟩;have q6:=(q5.below (aB w5 _)).grown hcl s6 g6;have hBr:=q6.lb.lt;obtain ⟨k0,k1,k2,k3,k4,k5,k6,k7⟩:=LB8.cells (q6.lb.alloc (.cells #[.int .i64 z,.int .i64 24] 3));obtain ⟨h0,h1,h2,h3,h4,h5,h6,h7⟩:=LB8.free (q6.lb.alloc (.cells #[.int .i64 z,.int .i64 24] 3)));have qf:gW w0 w c al len cap B { d with po:=[z,24] } { s with a2:=some ⟨w6.heap.size,0,none⟩,c2:=2 } ((w6.setCell ⟨B,6,none⟩ (.slice (some ⟨w6.heap.size,0,none⟩) 2 2)).alloc (.cells #[.int .i64 z,.int .i64 24] 3)):=q6.agm hcl hn0 [z,24];have sf:uh { d with po:=[z,24] }:=⟨sm.ino,sm.cl,sm.pg,sm.rc,sm.aH,(by show 2<=3;omega),sm.fr⟩;generalize ((w6.setCell ⟨B,6,none⟩ (.slice (some ⟨w6.heap.size,0,none⟩) 2 2)).alloc (.cells #[.int .i64 z,.int .i64 24] 3))=V at qf ⊢;generalize ({ d with po:=[z,24] }:ak)=e at qf sf;generalize ({ s with a2:=some ⟨w6.heap.size,0,none⟩,c2:=2 }:aA)=r at qf;clear q5 sm;obtain ⟨t0,t1,t2,t3,t4,t5,t6,t7⟩:=LB8.cells qf.lb;obtain ⟨u0,u1,u2,u3,u4,u5,u6,u7⟩:=LB8.cells qf.res;obtain ⟨x0,x1,x2,x3,x4,x5,x6,x7⟩:=LB8.free qf.res;have qq:=me (y0:=.int .i64 e.ino) (y1:=.int .i64 e.cl) (y2:=.int .i64 e.un) (y3:=.string e.rc) (y4:=.slice r.a1 e.pg.length r.c1) (y5:=.string e.aH) (y6:=.slice r.a2 e.po.length r.c2) (y7:=.slice r.a3 e.fr.length r.c3) qf.res;obtain ⟨f1,f2,f3⟩:=qf.fin hcl hn0 (.int .i64 e.ino) (.int .i64 e.cl) (.int .i64 e.un) (.string e.rc) (.slice r.a1 e.pg.length r.c1) (.string e.aH) (.slice r.a2 e.po.length r.c2) (.slice r.a3 e.fr.length r.c3);obtain ⟨r0,r1,r2,r3,r4,r5,r6,r7⟩:=LB8.cells qq;clear qf;go_wp2;refine bL (v:=bH e r) (by simp[results,results62,go_sem,r0,r1,r2,r3,r4,r5,r6,r7]) rfl ?_;exact ⟨e,r,rfl,sf,f1,f2,f3⟩
 have e0':(x == 0)=false:=by simpa using e0
 by_cases e1:x=1
 ·subst e1;have i0:=q5.lb.c0;go_upto_region 15 with (go_at_call 58;refine (xn hcode q5.st hlen (aeC sm.ino) (show 0<4 by decide) (show 4<=100 by decide)).mono ?_;rintro e w6 ⟨⟨z,wz,rfl⟩,s6,g6⟩;have q6:=(q5.below (aB w5 _)).grown hcl s6 g6;have hBr:=q6.lb.lt;obtain ⟨k0,k1,k2,k3,k4,k5,k6,k7⟩:=LB8.cells (q6.lb.alloc (.cells #[.int .i64 z] 3));obtain ⟨h0,h1,h2,h3,h4,h5,h6,h7⟩:=LB8.free (q6.lb.alloc (.cells #[.int .i64 z] 3)));have qf:gW w0 w c al len cap B { d with fr:=[z] } { s with a3:=some ⟨w6.heap.size,0,none⟩,c3:=1 } ((w6.setCell ⟨B,7,none⟩ (.slice (some ⟨w6.heap.size,0,none⟩) 1 1)).alloc (.cells #[.int .i64 z] 3)):=q6.ahl hcl hn0 [z];have sf:uh { d with fr:=[z] }:=⟨sm.ino,sm.cl,sm.pg,sm.rc,sm.aH,sm.po,(by show 1<=2;omega)⟩;generalize ((w6.setCell ⟨B,7,none⟩ (.slice (some ⟨w6.heap.size,0,none⟩) 1 1)).alloc (.cells #[.int .i64 z] 3))=V at qf ⊢;generalize ({ d with fr:=[z] }:ak)=e at qf sf;generalize ({ s with a3:=some ⟨w6.heap.size,0,none⟩,c3:=1 }:aA)=r at qf;clear q5 sm;obtain ⟨t0,t1,t2,t3,t4,t5,t6,t7⟩:=LB8.cells qf.lb;obtain ⟨u0,u1,u2,u3,u4,u5,u6,u7⟩:=LB8.cells qf.res;obtain ⟨x0,x1,x2,x3,x4,x5,x6,x7⟩:=LB8.free qf.res;have qq:=me (y0:=.int .i64 e.ino) (y1:=.int .i64 e.cl) (y2:=.int .i64 e.un) (y3:=.string e.rc) (y4:=.slice r.a1 e.pg.length r.c1) (y5:=.string e.aH) (y6:=.slice r.a2 e.po.length r.c2) (y7:=.slice r.a3 e.fr.length r.c3) qf.res;obtain ⟨f1,f2,f3⟩:=qf.fin hcl hn0 (.int .i64 e.ino) (.int .i64 e.cl) (.int .i64 e.un) (.string e.rc) (.slice r.a1 e.pg.length r.c1) (.string e.aH) (.slice r.a2 e.po.length r.c2) (.slice r.a3 e.fr.length r.c3);obtain ⟨r0,r1,r2,r3,r4,r5,r6,r7⟩:=LB8.cells qq;clear qf;go_wp2;refine bL (v:=bH e r) (by simp[results,results62,go_sem,r0,r1,r2,r3,r4,r5,r6,r7]) rfl ?_;exact ⟨e,r,rfl,sf,f1,f2,f3⟩
 have e1':(x == 1)=false:=by simpa using e1
 by_cases e2:x=2
 ·subst e2;go_upto_region 15 with (go_at_call 58;refine (xn hcode q5.st hlen aeF (show 0<3 by decide) (show 3<=100 by decide)).mono ?_;rintro e w6 ⟨⟨z,wz,rfl⟩,s6,g6⟩;have q6:=(q5.below (aB w5 _)).grown hcl s6 g6;have hBr:=q6.lb.lt;obtain ⟨k0,k1,k2,k3,k4,k5,k6,k7⟩:=LB8.cells q6.lb;obtain ⟨h0,h1,h2,h3,h4,h5,h6,h7⟩:=LB8.free q6.lb);have qf:gW w0 w c al len cap B { d with cl:=z } s (w6.setCell ⟨B,1,none⟩ (.int .i64 z)):=q6.set hcl hn0 1 _ rfl (q6.p1.mw 1 _) (q6.p2.mw 1 _) (q6.p3.mw 1 _);have sf:uh { d with cl:=z }:=⟨sm.ino,wz,sm.pg,sm.rc,sm.aH,sm.po,sm.fr⟩;generalize (w6.setCell ⟨B,1,none⟩ (.int .i64 z))=V at qf ⊢;generalize ({ d with cl:=z }:ak)=e at qf sf;generalize (s:aA)=r at qf;clear q5 sm;obtain ⟨t0,t1,t2,t3,t4,t5,t6,t7⟩:=LB8.cells qf.lb;obtain ⟨u0,u1,u2,u3,u4,u5,u6,u7⟩:=LB8.cells qf.res;obtain ⟨x0,x1,x2,x3,x4,x5,x6,x7⟩:=LB8.free qf.res;have qq:=me (y0:=.int .i64 e.ino) (y1:=.int .i64 e.cl) (y2:=.int .i64 e.un) (y3:=.string e.rc) (y4:=.slice r.a1 e.pg.length r.c1) (y5:=.string e.aH) (y6:=.slice r.a2 e.po.length r.c2) (y7:=.slice r.a3 e.fr.length r.c3) qf.res;obtain ⟨f1,f2,f3⟩:=qf.fin hcl hn0 (.int .i64 e.ino) (.int .i64 e.cl) (.int .i64 e.un) (.string e.rc) (.slice r.a1 e.pg.length r.c1) (.string e.aH) (.slice r.a2 e.po.length r.c2) (.slice r.a3 e.fr.length r.c3);obtain ⟨r0,r1,r2,r3,r4,r5,r6,r7⟩:=LB8.cells qq;clear qf;go_wp2;refine bL (v:=bH e r) (by simp[results,results62,go_sem,r0,r1,r2,r3,r4,r5,r6,r7]) rfl ?_;exact ⟨e,r,rfl,sf,f1,f2,f3⟩
 have e2':(x == 2)=false:=by simpa using e2
 by_cases e3:x=3
 ·subst e3;obtain ⟨k0,k1,k2,k3,k4,k5,k6,k7⟩:=LB8.cells q5.lb;obtain ⟨h0,h1,h2,h3,h4,h5,h6,h7⟩:=LB8.free q5.lb;go_upto_region 15 with (fail);have qf:gW w0 w c al len cap B { d with un:=-1 } s (w5.setCell ⟨B,2,none⟩ (.int .i64 (-1))):=q5.set hcl hn0 2 _ rfl (q5.p1.mw 2 _) (q5.p2.mw 2 _) (q5.p3.mw 2 _);have sf:uh { d with un:=-1 }:=⟨sm.ino,sm.cl,sm.pg,sm.rc,sm.aH,sm.po,sm.fr⟩;generalize (w5.setCell ⟨B,2,none⟩ (.int .i64 (-1)))=V at qf ⊢;generalize ({ d with un:=-1 }:ak)=e at qf sf;generalize (s:aA)=r at qf;clear q5 sm;obtain ⟨t0,t1,t2,t3,t4,t5,t6,t7⟩:=LB8.cells qf.lb;obtain ⟨u0,u1,u2,u3,u4,u5,u6,u7⟩:=LB8.cells qf.res;obtain ⟨x0,x1,x2,x3,x4,x5,x6,x7⟩:=LB8.free qf.res;have qq:=me (y0:=.int .i64 e.ino) (y1:=.int .i64 e.cl) (y2:=.int .i64 e.un) (y3:=.string e.rc) (y4:=.slice r.a1 e.pg.length r.c1) (y5:=.string e.aH) (y6:=.slice r.a2 e.po.length r.c2) (y7:=.slice r.a3 e.fr.length r.c3) qf.res;obtain ⟨f1,f2,f3⟩:=qf.fin hcl hn0 (.int .i64 e.ino) (.int .i64 e.cl) (.int .i64 e.un) (.string e.rc) (.slice r.a1 e.pg.length r.c1) (.string e.aH) (.slice r.a2 e.po.length r.c2) (.slice r.a3 e.fr.length r.c3);obtain ⟨r0,r1,r2,r3,r4,r5,r6,r7⟩:=LB8.cells qq;clear qf;go_wp2;refine bL (v:=bH e r) (by simp[results,results62,go_sem,r0,r1,r2,r3,r4,r5,r6,r7]) rfl ?_;exact ⟨e,r,rfl,sf,f1,f2,f3⟩
 have e3':(x == 3)=false:=by simpa using e3
 by_cases e4:x=4
 ·subst e4;obtain ⟨k0,k1,k2,k3,k4,k5,k6,k7⟩:=LB8.cells q5.lb;obtain ⟨h0,h1,h2,h3,h4,h5,h6,h7⟩:=LB8.free q5.lb;have hss:=sm.aH;have y1:¬ (9223372036854775807<d.aH.size+1):=by omega
  go_upto_region 15 with (fail);have qf:gW w0 w c al len cap B { d with aH:=d.aH++(⟨#[120]⟩:ByteArray) } s (w5.setCell ⟨B,5,none⟩ (.string (d.aH ++ ⟨#[120]⟩))):=q5.set hcl hn0 5 _ rfl (q5.p1.mw 5 _) (q5.p2.mw 5 _) (q5.p3.mw 5 _);have sf:uh { d with aH:=d.aH++(⟨#[120]⟩:ByteArray) }:=⟨sm.ino,sm.cl,sm.pg,sm.rc,aeG l3,sm.po,sm.fr⟩;generalize (w5.setCell ⟨B,5,none⟩ (.string (d.aH ++ ⟨#[120]⟩)))=V at qf ⊢;generalize ({ d with aH:=d.aH++(⟨#[120]⟩:ByteArray) }:ak)=e at qf sf;generalize (s:aA)=r at qf;clear q5 sm;obtain ⟨t0,t1,t2,t3,t4,t5,t6,t7⟩:=LB8.cells qf.lb;obtain ⟨u0,u1,u2,u3,u4,u5,u6,u7⟩:=LB8.cells qf.res;obtain ⟨x0,x1,x2,x3,x4,x5,x6,x7⟩:=LB8.free qf.res;have qq:=me (y0:=.int .i64 e.ino) (y1:=.int .i64 e.cl) (y2:=.int .i64 e.un) (y3:=.string e.rc) (y4:=.slice r.a1 e.pg.length r.c1) (y5:=.string e.aH) (y6:=.slice r.a2 e.po.length r.c2) (y7:=.slice r.a3 e.fr.length r.c3) qf.res;obtain ⟨f1,f2,f3⟩:=qf.fin hcl hn0 (.int .i64 e.ino) (.int .i64 e.cl) (.int .i64 e.un) (.string e.rc) (.slice r.a1 e.pg.length r.c1) (.string e.aH) (.slice r.a2 e.po.length r.c2) (.slice r.a3 e.fr.length r.c3);obtain ⟨r0,r1,r2,r3,r4,r5,r6,r7⟩:=LB8.cells qq;clear qf;go_wp2;refine bL (v:=bH e r) (by simp[results,results62,go_sem,r0,r1,r2,r3,r4,r5,r6,r7]) rfl ?_;exact ⟨e,r,rfl,sf,f1,f2,f3⟩
 have e4':(x == 4)=false:=by simpa using e4
 by_cases e5:x=5
 ·subst e5;obtain ⟨k0,k1,k2,k3,k4,k5,k6,k7⟩:=LB8.cells q5.lb;obtain ⟨h0,h1,h2,h3,h4,h5,h6,h7⟩:=LB8.free q5.lb;go_upto_region 15 with (go_at_call 75;refine (nj 16 _).mono ?_;rintro e w6 ⟨rfl,rfl⟩);have qf:gW w0 w c al len cap B { d with rc:=bB 16 } s (w6.setCell ⟨B,3,none⟩ (.string (bB 16))):=q5.set hcl hn0 3 _ rfl (q5.p1.mw 3 _) (q5.p2.mw 3 _) (q5.p3.mw 3 _);have sf:uh { d with rc:=bB 16 }:=⟨sm.ino,sm.cl,sm.pg,aeH,sm.aH,sm.po,sm.fr⟩;generalize (w6.setCell ⟨B,3,none⟩ (.string (bB 16)))=V at qf ⊢;generalize ({ d with rc:=bB 16 }:ak)=e at qf sf;generalize (s:aA)=r at qf;clear q5 sm;obtain ⟨t0,t1,t2,t3,t4,t5,t6,t7⟩:=LB8.cells qf.lb;obtain ⟨u0,u1,u2,u3,u4,u5,u6,u7⟩:=LB8.cells qf.res;obtain ⟨x0,x1,x2,x3,x4,x5,x6,x7⟩:=LB8.free qf.res;have qq:=me (y0:=.int .i64 e.ino) (y1:=.int .i64 e.cl) (y2:=.int .i64 e.un) (y3:=.string e.rc) (y4:=.slice r.a1 e.pg.length r.c1) (y5:=.string e.aH) (y6:=.slice r.a2 e.po.length r.c2) (y7:=.slice r.a3 e.fr.length r.c3) qf.res;obtain ⟨f1,f2,f3⟩:=qf.fin hcl hn0 (.int .i64 e.ino) (.int .i64 e.cl) (.int .i64 e.un) (.string e.rc) (.slice r.a1 e.pg.length r.c1) (.string e.aH) (.slice r.a2 e.po.length r.c2) (.slice r.a3 e.fr.length r.c3);obtain ⟨r0,r1,r2,r3,r4,r5,r6,r7⟩:=LB8.cells qq;clear qf;go_wp2;refine bL (v:=bH e r) (by simp[results,results62,go_sem,r0,r1,r2,r3,r4,r5,r6,r7]) rfl ?_;exact ⟨e,r,rfl,sf,f1,f2,f3⟩
 have e5':(x == 5)=false:=by simpa using e5
 go_upto_region 15 with (fail);have qf:gW w0 w c al len cap B d s (w5):=q5;have sf:uh d:=sm;generalize w5=V at qf ⊢;generalize (d:ak)=e at qf sf;generalize (s:aA)=r at qf;clear q5 sm;obtain ⟨t0,t1,t2,t3,t4,t5,t6,t7⟩:=LB8.cells qf.lb;obtain ⟨u0,u1,u2,u3,u4,u5,u6,u7⟩:=LB8.cells qf.res;obtain ⟨x0,x1,x2,x3,x4,x5,x6,x7⟩:=LB8.free qf.res;have qq:=me (y0:=.int .i64 e.ino) (y1:=.int .i64 e.cl) (y2:=.int .i64 e.un) (y3:=.string e.rc) (y4:=.slice r.a1 e.pg.length r.c1) (y5:=.string e.aH) (y6:=.slice r.a2 e.po.length r.c2) (y7:=.slice r.a3 e.fr.length r.c3) qf.res;obtain ⟨f1,f2,f3⟩:=qf.fin hcl hn0 (.int .i64 e.ino) (.int .i64 e.cl) (.int .i64 e.un) (.string e.rc) (.slice r.a1 e.pg.length r.c1) (.string e.aH) (.slice r.a2 e.po.length r.c2) (.slice r.a3 e.fr.length r.c3);obtain ⟨r0,r1,r2,r3,r4,r5,r6,r7⟩:=LB8.cells qq;clear qf;go_wp2;refine bL (v:=bH e r) (by simp[results,results62,go_sem,r0,r1,r2,r3,r4,r5,r6,r7]) rfl ?_;exact ⟨e,r,rfl,sf,f1,f2,f3⟩
end
end Go.Proofs.YtidmmopnkjbjoaaGreatDoor
