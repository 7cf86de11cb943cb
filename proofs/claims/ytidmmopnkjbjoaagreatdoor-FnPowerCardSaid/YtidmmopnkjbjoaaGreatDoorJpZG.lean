/- Joined texts. -/
import Derived.Test.YtidmmopnkjbjoaaGreatDoorJpZD
import Derived.Test.YtidmmopnkjbjoaaGreatDoorJpZC
set_option linter.unusedVariables false
set_option linter.unusedSimpArgs false
set_option maxRecDepth 10000
set_option maxHeartbeats 16000000
namespace Go.Proofs.YtidmmopnkjbjoaaGreatDoor
open ChangeShapes WideShapes ChangeAt RowKit
open Go.Proofs.Tryz
theorem TF (n k:Nat):∀ (l:List (Int × ByteArray)),(∃ p ∈ l,cZ n p.1 p.2.size=true/\p.1<=(k:Int)/\(k:Int)<p.1+(p.2.size:Int))->∃ v,∀ m:ByteArray,m.size=n->kP (jv m l) k=v
 | [],h=>by obtain ⟨p,hp,-⟩:=h;simp at hp
 | p :: r,h=>by
  rcases SV n k r with ⟨v,hv⟩ | h';·exact ⟨v,fun m hm=>hv _ (by rw[oA,hm])⟩
  ·obtain ⟨q,hq,hc⟩:=h;rcases iY.1 hq with rfl | hq
   ·refine ⟨kP q.2 (k-q.1.toNat),fun m hm=>?_⟩;rw[jv,h' _ (by rw[oA,hm]),F5,aF (by rw[hm];exact hc)]
   obtain ⟨v,hv⟩:=TF n k r ⟨q,hq,hc⟩;exact ⟨v,fun m hm=>hv _ (by rw[oA,hm])⟩
def uk (ds:List ak):Nat->List (Int × ByteArray)
 | 0=>[]
 | k+1=>uk ds k++oG (au ds k)
theorem CI {ds:List ak} {p:Int × ByteArray}:∀ {n:Nat},p ∈ uk ds n ↔ ∃ i,i<n/\p ∈ oG (au ds i)
 | 0=>by simp[uk]
 | n+1=>by
  rw[uk,gP,CI (n:=n)];constructor
  ·rintro (⟨i,hi,h⟩ | h);·exact ⟨i,by omega,h⟩
   exact ⟨n,by omega,h⟩
  ·rintro ⟨i,hi,h⟩;by_cases e:i=n
   ·subst e;exact Or.inr h
   exact Or.inl ⟨i,by omega,h⟩
theorem Ai {ds:List ak} {m:ByteArray} (hm:m.size=768):∀ n,(∀ i,i<n->bT (au ds i)=true)->dB ds m n=jv m (uk ds n)
 | 0,_=>rfl
 | n+1,h=>by rw[dB,Ai hm n (fun i hi=>h i (by omega)),uk,F6,dy,aF ⟨h n (by omega),by rw[SU];exact hm⟩,aet]
theorem TG {s:ByteArray} {i:Int} {n:Nat} (h:cZ s.size i n=true):(aO s i n).size=n:=by obtain ⟨h0,h1,h2⟩:=si h;rw[aO,aF h,lU];omega
theorem TH {s:ByteArray} {n k:Nat} (h:s.size=n*32) (hk:k<n):cZ s.size ((k:Int)*32) (32:Int)=true:=bF (by omega)
theorem TI {d:ak} (h:bT d=true) {p:Int × ByteArray} (hp:p ∈ oG d):p.1=bA d.ino/\p.2.size=16\/(∃ z ∈ d.pg,p.1=z*32/\p.2.size=32)\/∃ z ∈ d.fr,p.1=bA z/\p.2.size=16:=by
 obtain ⟨-,-,-,hsv,-⟩:=iO h;unfold oG at hp;rcases iY.1 hp with rfl | hp;·exact Or.inl ⟨rfl,S5 h⟩
 rcases gP.1 hp with hp | hp
 ·unfold CB at hp;obtain ⟨k,hk,rfl⟩:=na.1 hp;have hk':k<d.pg.length:=by simpa using hk
  refine Or.inr (Or.inl ⟨d.pg.getD k 0,?_,rfl,TG (n:=32) (TH hsv (by omega))⟩);rw[jR,gD hk'];exact nQ _
 obtain ⟨z,hz,e1,e2⟩:=aeu hp;exact Or.inr (Or.inr ⟨z,hz,e1,e2⟩)
theorem afx {d:ak} (h:bT d=true):∃ p ∈ oG d,p.1=bA d.ino/\p.2.size=16:=⟨_,D4,rfl,S5 h⟩
theorem afy {d:ak} (h:bT d=true) {z:Int} (hz:z ∈ d.pg):∃ p ∈ oG d,p.1=z*32/\p.2.size=32:=by obtain ⟨-,-,-,hsv,-⟩:=iO h;obtain ⟨k,hk,rfl⟩:=Xm hz;refine ⟨(d.pg.getD k 0*32,aO d.aH ((k:Int)*32) 32),tB _ (List.mem_append_left _ (na.2 ⟨k,by simpa using hk,rfl⟩)),?_,TG (n:=32) (TH hsv (by omega))⟩;rw[jR,gD hk];rfl
theorem afz {d:ak} (h:bT d=true) {z:Int} (hz:z ∈ d.fr):∃ p ∈ oG d,p.1=bA z/\p.2.size=16:=by obtain ⟨k,hk,rfl⟩:=Xm hz;refine ⟨(bA (d.fr.getD k 0),bB 16),tB _ (List.mem_append_right _ (na.2 ⟨k,by simpa using hk,rfl⟩)),?_,S4⟩;rw[jR,gD hk];rfl
theorem TJ {z:Int} (h0:0<=z) (h7:z<=7):bA z=32+z*16:=aev h0 h7
theorem TL {d:ak} (h:bT d=true) {z:Int} (hz:z ∈ d.pg\/z ∈ d.po):5<=z/\z<=23:=by obtain ⟨-,-,-,-,-,-,-,-,-,eZ,-⟩:=iO h;rw[mJ] at eZ;exact eZ.1 z (gP.2 hz)
theorem afA {d:ak} (h:bT d=true) {p:Int × ByteArray} (hp:p ∈ oG d):cZ 768 p.1 p.2.size=true:=by
 obtain ⟨-,-,-,-,hi,-,-,-,-,-,hfr,-⟩:=iO h;rcases TI h hp with ⟨e1,e2⟩ | ⟨z,hz,e1,e2⟩ | ⟨z,hz,e1,e2⟩
 ·rw[e1,e2,TJ hi.1 hi.2];exact bF (by omega)
 ·have:=TL h (Or.inl hz);rw[e1,e2];exact bF (by omega)
 have:=hfr z hz;rw[e1,e2,TJ (by omega) (by omega)];exact bF (by omega)
theorem afB {d:ak} (h:bT d=true) {r:gx} (hr:r ∈ aJ d) {j:Nat} (hc:r.1<=(j:Int)/\(j:Int)<r.1+r.2) (hn:∀ p ∈ oG d,¬ (p.1<=(j:Int)/\(j:Int)<p.1+(p.2.size:Int))):∃ z ∈ d.po,z*32<=(j:Int)/\(j:Int)<z*32+32:=by
 rw[S6 h] at hr;simp only[gP,na,lW] at hr;rcases hr with ((hr | ⟨z,hz,hr⟩) | ⟨z,hz,hr⟩) | ⟨z,hz,hr⟩
 ·obtain ⟨p,hp,e1,e2⟩:=afx h;subst hr;exact absurd hc (by have:=hn p hp;rw[e1,e2] at this;exact this)
 ·obtain ⟨p,hp,e1,e2⟩:=afy h hz;subst hr;exact absurd hc (by have:=hn p hp;rw[e1,e2] at this;exact this)
 ·subst hr;exact ⟨z,hz,hc⟩
 obtain ⟨p,hp,e1,e2⟩:=afz h hz;subst hr;exact absurd hc (by have:=hn p hp;rw[e1,e2] at this;exact this)
theorem afC {d:ak} (h:bT d=true) {p:Int × ByteArray} (hp:p ∈ oG d) {j:Nat} (hc:p.1<=(j:Int)/\(j:Int)<p.1+(p.2.size:Int)):∃ r ∈ aJ d,r.1<=(j:Int)/\(j:Int)<r.1+r.2:=by
 rw[S6 h];rcases TI h hp with ⟨e1,e2⟩ | ⟨z,hz,e1,e2⟩ | ⟨z,hz,e1,e2⟩;·exact ⟨(bA d.ino,16),by simp,by rw[e1,e2] at hc;exact hc⟩
 ·exact ⟨(z*32,32),(by simp only[gP,na,lW];exact Or.inl (Or.inl (Or.inr ⟨z,hz,rfl⟩))),by rw[e1,e2] at hc;exact hc⟩
 refine ⟨(bA z,16),?_,by rw[e1,e2] at hc;exact hc⟩;simp only[gP,na,lW];exact Or.inr ⟨z,hz,rfl⟩
def xT (rs:List gx) (j:Nat):Nat->Bool
 | 0=>false
 | k+1=>vJ (ek rs k) j || xT rs j k
def rm (ds:List ak) (j:Nat):Nat->Bool
 | 0=>false
 | k+1=>xT (aJ (au ds k)) j (aJ (au ds k)).length || rm ds j k
theorem TM (a b:ByteArray) (rs:List gx) (hin:∀ r ∈ rs,0<=r.1/\16<=r.2/\r.1+r.2<=768) (h8:∀ r ∈ rs,r.1 % 8=0/\r.2 % 8=0) (j:Nat) (hj:j<768):∀ k,k<=rs.length->cM (dG a b rs k) j=if xT rs j k then cM a j else cM b j
 | 0,_=>rfl
 | k+1,hk=>by
  have hm:ek rs k ∈ rs:=by rw[zt _ _ (by omega)];exact nQ _
  obtain ⟨i1,i2,i3⟩:=hin _ hm;obtain ⟨e1,e2⟩:=h8 _ hm;rw[dG,Su _ _ _ _ hj i1 i2 e1 e2,TM a b rs hin h8 j hj k (by omega)];exact zZ _ _ _ _
theorem Ky (a b:ByteArray) (ds:List ak) (j:Nat) (hj:j<768):∀ k,cM (fI a b ds k) j=if rm ds j k then cM a j else cM b j
 | 0=>rfl
 | k+1=>by rw[fI,TM _ _ _ (JD _) (Ss _) j hj _ (aq _),Ky a b ds j hj k];exact zZ _ _ _ _
theorem TN {rs:List gx} {j:Nat}:∀ {k:Nat},k<=rs.length->(xT rs j k=true ↔ ∃ i,i<k/\(ek rs i).1<=(j:Int)/\(j:Int)<(ek rs i).1+(ek rs i).2)
 | 0,_=>by simp[xT]
 | k+1,h=>by
  rw[xT,kY,TN (k:=k) (by omega),vJ,dC];constructor
  ·rintro (h1 | ⟨i,hi,h1⟩);·exact ⟨k,by omega,h1⟩
   exact ⟨i,by omega,h1⟩
  ·rintro ⟨i,hi,h1⟩;by_cases e:i=k
   ·subst e;exact Or.inl h1
   exact Or.inr ⟨i,by omega,h1⟩
theorem Kz {ds:List ak} {j:Nat}:∀ {k:Nat},rm ds j k=true ↔ ∃ i,i<k/\∃ r ∈ aJ (au ds i),r.1<=(j:Int)/\(j:Int)<r.1+r.2
 | 0=>by simp[rm]
 | k+1=>by
  have e:xT (aJ (au ds k)) j (aJ (au ds k)).length=true ↔ ∃ r ∈ aJ (au ds k),r.1<=(j:Int)/\(j:Int)<r.1+r.2:=by
   rw[TN (aq _)];constructor
   ·rintro ⟨i,hi,h⟩;exact ⟨_,by rw[zt _ _ hi];exact nQ _,h⟩
   rintro ⟨r,hr,h⟩;obtain ⟨i,hi,rfl⟩:=Xm hr;exact ⟨i,hi,by rw[zt _ _ hi];exact h⟩
  rw[rm,kY,e,Kz (k:=k)];constructor
  ·rintro (h | ⟨i,hi,h⟩);·exact ⟨k,by omega,h⟩
   exact ⟨i,by omega,h⟩
  ·rintro ⟨i,hi,h⟩;by_cases e:i=k
   ·subst e;exact Or.inl h
   exact Or.inr ⟨i,by omega,h⟩
theorem Gi {s:ByteArray} (hs:s.size=768) {j:Nat} (hj:j<768):kP s j=some (cM s j):=va (by rw[<- hs];exact (cV s).symm) hj
theorem KB {s t:ByteArray} {j:Nat} (h:kP s j=kP t j):cM s j=cM t j:=by unfold cM;rw[jR,jR];exact fK (fun x=>Option.getD x 0) h
theorem TO {s t:ByteArray} (hs:s.size=768) (ht:t.size=768) (h:∀ j,j<768->cM s j=cM t j):s=t:=by have:=(FY hs ht).2 h;rw[qB,wG,wG] at this;exact gm (jB.1 this)
theorem afD {ds:List ak} {m:ByteArray} (hm:m.size=768) {n:Nat} (h:∀ i,i<n->bT (au ds i)=true) {j:Nat} (hc:rm ds j n=false):kP (dB ds m n) j=kP m j:=by rw[Ai hm n h];refine F7 j _ m fun p hp hx=>?_;obtain ⟨i,hi,hp'⟩:=CI.1 hp;have:rm ds j n=true:=Kz.2 ⟨i,hi,afC (h i hi) hp' hx⟩;rw[hc] at this;cases this
theorem afE {ds:List ak} {q:ByteArray} (hq:q.size=768) {n:Nat} (h:∀ i,i<n->bT (au ds i)=true):fI (dB ds q n) q ds n=dB ds q n:=by
 have hu:(dB ds q n).size=768:=(ml ds q n).trans hq;refine TO (vI _ _ _ hq n) hu fun j hj=>?_;rw[Ky _ _ _ _ hj];cases hc:rm ds j n with
 | true=>rfl
 | false=>exact (KB (afD hq h hc)).symm
theorem CJ {k:aL} (h:fj k=true):k.mem.size=768/\k.ay.size=768/\cv (bM k)=true/\(0<=k.ck/\k.ck<=999999)/\(∀ i,i<k.ds.length->bT (au k.ds i)=true/\∀ z ∈ (au k.ds i).po,¬ z ∈ cY (bM k))/\∀ j,j<768->rm k.ds j k.ds.length=false->cM k.mem j=cM k.ay j:=by
 simp only[fj,cj,lV,qy] at h;obtain ⟨h1,h2,h3,-,h5,h6,-,-,h9⟩:=h;obtain ⟨m1,m2⟩:=nW h1;refine ⟨m1,m2,h5,⟨by omega,by omega⟩,fun i hi=>?_,fun j hj hc=>?_⟩
 ·have:=iN.1 h6 i hi;simp only[kg,tW,cj] at this;exact ⟨this.1,OC.1 this.2.2.2.2⟩
 have:=(FY m1 (vI _ _ _ m2 _)).1 h9 j hj;rw[Ky _ _ _ _ hj,hc] at this;exact this
structure KE (k:aL) (q:ByteArray):Prop where
 size:q.size=768
 byte:∀ j,j<768->cM q j=cM k.mem j\/cM q j=cM k.ay j
structure Gj (k:aL) (q:ByteArray):Prop where
 size:q.size=768
 byte:∀ j,j<768->rm k.ds j k.ds.length=false->cM q j=cM k.mem j
theorem KE.out {k:aL} (h:fj k=true) {q:ByteArray} (hq:KE k q):Gj k q:=by
 refine ⟨hq.size,fun j hj hc=>?_⟩;rcases hq.byte j hj with e | e;·exact e
 rw[e,(CJ h).2.2.2.2.2 j hj hc]
theorem afF {k:aL} (h:fj k=true) {q:ByteArray} (hq:Gj k q) {j i:Nat} (hi:i<k.ds.length) {p:Int × ByteArray} (hp:p ∈ oG (au k.ds i)) (hx:p.1<=(j:Int)/\(j:Int)<p.1+(p.2.size:Int)):cM (dB k.ds q k.ds.length) j=cM (bM k) j:=by
 obtain ⟨m1,-,-,-,hl,-⟩:=CJ h;have hl':=fun i hi=>(hl i hi).1;unfold bM;rw[Ai hq.size _ hl',Ai m1 _ hl'];apply KB
 obtain ⟨v,hv⟩:=TF 768 j (uk k.ds k.ds.length) ⟨p,CI.2 ⟨i,hi,hp⟩,afA (hl' i hi) hp,hx⟩;rw[hv _ hq.size,hv _ m1]
theorem TQ {k:aL} (h:fj k=true) {q:ByteArray} (hq:Gj k q) {j:Nat} (hj:j<768) (hu:∀ i,i<k.ds.length->∀ z ∈ (au k.ds i).po,¬ (z*32<=(j:Int)/\(j:Int)<z*32+32)):cM (dB k.ds q k.ds.length) j=cM (bM k) j:=by
 obtain ⟨m1,-,-,-,hl,-⟩:=CJ h;have hl':=fun i hi=>(hl i hi).1;by_cases hc:∃ p ∈ uk k.ds k.ds.length,p.1<=(j:Int)/\(j:Int)<p.1+(p.2.size:Int)
 ·obtain ⟨p,hp,hx⟩:=hc;obtain ⟨i,hi,hp'⟩:=CI.1 hp;exact afF h hq hi hp' hx
 have hn:∀ p ∈ uk k.ds k.ds.length,¬ (p.1<=(j:Int)/\(j:Int)<p.1+(p.2.size:Int)):=fun p hp hx=>hc ⟨p,hp,hx⟩;unfold bM;rw[Ai hq.size _ hl',Ai m1 _ hl'];apply KB
 rw[F7 j _ q hn,F7 j _ k.mem hn,Gi hq.size hj,Gi m1 hj];congr 1;refine hq.byte j hj ?_;cases hcv:rm k.ds j k.ds.length with
 | false=>rfl
 | true=>
  obtain ⟨i,hi,r,hr,hx⟩:=Kz.1 hcv;obtain ⟨z,hz,hz'⟩:=afB (hl' i hi) hr hx fun p hp=>hn p (CI.2 ⟨i,hi,hp⟩);exact absurd hz' (hu i hi z hz)
section
theorem KF {s t:ByteArray} (hs:s.size=768) (ht:t.size=768) {i n:Int} (h:∀ j:Nat,j<768->i<=(j:Int)->(j:Int)<i+n->cM s j=cM t j):aO s i n=aO t i n:=by
 unfold aO;rw[hs,ht];split
 ·rename_i hl;obtain ⟨h0,h1,h2⟩:=si hl;apply gm;apply jB.1;rw[pE,pE];apply A5;intro j;rw[tD,tD];split
  ·rename_i hj;rw[qD,qD];have hk:i.toNat+j<768:=by omega
   have e1:=Gi hs hk;have e2:=Gi ht hk;unfold kP at e1 e2;rw[e1,e2,h _ hk (by omega) (by omega)]
  rfl
 rfl
structure kU (t t':ByteArray):Prop where
 s:t.size=768
 s':t'.size=768
 low:∀ j,j<160->cM t' j=cM t j
 pgs:∀ z ∈ dh (dL t) 8,∀ j:Nat,j<768->z*32<=(j:Int)->(j:Int)<z*32+32->cM t' j=cM t j
variable {t t' : ByteArray}
theorem kU.Ak (h:kU t t') (i:Int):ar t' i=ar t i:=by
 unfold ar bA;split
 ·rename_i hb;obtain ⟨h0,h7⟩:=jE.1 hb;exact KF h.s' h.s fun j hj h1 h2=>h.low j (by omega)
 unfold aO;rw[h.s,h.s'];rfl
theorem TX {Z:Nat->List Int} {z:Int}:∀ {n i:Nat},i<n->z ∈ Z i->z ∈ dh Z n
 | 0,i,hi,_=>by omega
 | n+1,i,hi,hz=>by
  rw[dh,gP];by_cases e:i=n
  ·subst e;exact Or.inr hz
  ·exact Or.inl (TX (by omega) hz)
theorem T4 {zs:List Int} (hs:t.size=768) (hs':t'.size=768) (h:∀ z ∈ zs,∀ j:Nat,j<768->z*32<=(j:Int)->(j:Int)<z*32+32->cM t' j=cM t j):∀ n,n<=zs.length->dj t' zs n=dj t zs n
 | 0,_=>rfl
 | n+1,hn=>by
  have hm:zs.getD n 0 ∈ zs:=by rw[jR,gD (by omega)];exact nQ _
  rw[dj,dj,T4 hs hs' h n (by omega),KF hs' hs (h _ hm)]
theorem afG {m:ByteArray} {i:Nat} (h:¬ i<8):ar m (i:Int)=⟨#[]⟩:=by unfold ar bA;rw[aG (fun hb=>by have:=(jE.1 hb).2;omega),aO,aG (by simp[cZ])]
theorem kU.data (h:kU t t') (i:Nat):eY t' (i:Int)=eY t (i:Int):=by
 unfold eY;rw[h.Ak];congr 1;refine T4 h.s h.s' (fun z hz=>?_) _ (aq _);by_cases hi:i<8;·exact h.pgs z (TX hi hz)
 rw[afG hi] at hz;have e:aN ⟨#[]⟩=[]:=by decide +kernel
 rw[e] at hz;simp at hz
theorem kU.tK (h:kU t t'):bZ t'=bZ t:=funext fun i=>by unfold bZ;rw[h.Ak]
theorem kU.tZ (h:kU t t'):dL t'=dL t:=funext fun i=>by unfold dL;rw[h.Ak]
theorem kU.tE (h:kU t t'):bK t'=bK t:=funext fun i=>by unfold bK dw;rw[h.Ak,h.data]
theorem kU.sound (h:kU t t'):cv t'=cv t:=by
 unfold cv vH kf;rw[h.tK,h.tZ,h.tE,h.s,h.s',KF h.s' h.s (i:=0) (n:=32) fun j hj h1 h2=>h.low j (by omega)];have e:(fun i:Nat=>fv t' (i:Int))=fun i:Nat=>fv t (i:Int):=funext fun i=>by unfold fv;rw[h.Ak,h.data]
 rw[e]
theorem kU.filesTo (h:kU t t') (P:Nat->ByteArray):∀ n,fz t' P n=fz t P n
 | 0=>rfl
 | n+1=>by
  have e:sU t' P n=sU t P n:=by unfold sU lu;rw[h.tK,h.Ak,h.data]
  rw[fz,fz,kU.filesTo h P n,h.tK,e]
theorem kU.files (h:kU t t'):di t'=di t:=by
 have e:mo t'=mo t:=funext fun i=>by unfold mo;rw[h.tE]
 unfold di;rw[h.sound,h.filesTo,e]
theorem afH {k:aL} (h:fj k=true) {q:ByteArray} (hq:Gj k q):kU (bM k) (dB k.ds q k.ds.length):=by
 obtain ⟨m1,m2,hs,-,hl,-⟩:=CJ h;refine ⟨(ml _ _ _).trans m1,(ml _ _ _).trans hq.size,fun j hj=>?_,fun z hz j hj h1 h2=>?_⟩
 ·refine TQ h hq (by omega) fun i hi z hz=>?_;have:=TL (hl i hi).1 (Or.inr hz);omega
 refine TQ h hq hj fun i hi x hx h3=>?_;obtain rfl:x=z:=by omega
 refine (hl i hi).2 x hx ?_;unfold cY;rw[aF hs];exact (Cr _).mem_iff.2 hz
theorem afI {m:ByteArray} {c:Int} (hm:m.size=768) (hc:0<=c/\c<=999999) (hs:cv m=true):fj ⟨m,m,[],c⟩=true:=by
 have e:bM ⟨m,m,[],c⟩=m:=rfl;have e2:fI m m [] 0=m:=rfl;have h1:decide (c<0)=false:=bq (by omega);have h2:decide (999999<c)=false:=bq (by omega);have h3:dJ (fi [])=true:=by decide +kernel
 have h4:dM (fi []++kh [])=true:=by decide +kernel
 have h5:dM (sV [])=true:=by decide +kernel
 simp only[fj,zW,e,hs,cT,hm,fB,e2,BEq.rfl,h1,h2,h3,h4,h5,Yb];rfl
end
section
variable {w W W' : World} {mem : ByteArray}
theorem afJ {a b:ByteArray} (h:a=b):Ending.returned (.string a)=.returned (.string b):=by rw[h]
theorem T6 {E:Nat->List aV}:∀ n (x:Nat),x<8->fR (de (cr E 8)) n (x:Int)=true->∃ k q,k<=n/\eh E x k q
 | 0,x,_,h=>by
  simp only[fR,qB] at h;have:x=0:=by omega
  subst this;exact ⟨0,_,aq _,eh.zero⟩
 | n+1,x,hx,h=>by
  by_cases h0:x=0
  ·subst h0;exact ⟨0,_,aS _,eh.zero⟩
  ·rw[zd _ _ _ (by omega)] at h;rcases BC (cr E 8) x with hp | hp | ⟨p,hp,hq⟩
   ·rw[hp,wU _ _ _ (by decide)] at h;cases h
   ·rw[hp,wU _ _ _ (by decide)] at h;cases h
   rw[hq] at h;have hm:p ∈ eJ (cr E 8) x:=by rw[hp];simp
   obtain ⟨i,e⟩:=p;obtain ⟨m1,m2⟩:=sg.1 hm;obtain ⟨i8,he⟩:=wT.1 m1;have hex:e.1=(x:Int):=by simpa using m2
   obtain ⟨k,q,hk,ha⟩:=T6 n i i8 h;refine ⟨k+1,_,by omega,eh.down (nm:=e.2) ha ?_⟩;rw[<- hex];exact he
end
def rp (l:List cz):List cz:=xy (fun a b=>oy a.path b.path) [] l
def jd (o:ByteArray):List cz->ByteArray
 | []=>o
 | f :: r=>jd (o++lG f) r
def vU (mem:ByteArray):ByteArray:=if cv mem=true then jd ⟨#[]⟩ (rp (di mem)) else ⟨#[98,97,100,10]⟩
theorem T7 (l:List cz):(rp l).length=l.length:=by have:=(Fy (fun a b:cz=>oy a.path b.path) l []).length_eq;rw[iX] at this;exact this
theorem T8 (f:cz):∀ (l:List cz) (o:ByteArray),jd o (l ++ [f])=jd o l++lG f
 | [],o=>rfl
 | a :: l,o=>by rw[nS,jd,jd,T8 f l]
theorem afK (S:List cz) (k:Nat) (hk:k<S.length) (o:ByteArray):jd o (S.take (k+1))=jd o (S.take k)++lG S[k]:=by rw[kr hk,T8]
section
variable {mem : ByteArray}
theorem afL (n:Int) (hn:(Lit.int .i64 n).wf=true):(vO n).size<=22:=by
 have hb : -9223372036854775808<=n/\n<=9223372036854775807:=by simpa [Lit.wf,IntKind.min,IntKind.max,IntKind.signed,IntKind.bits] using hn
 show (Lib.itoa n).toArray.size<=22
 rw[nh];by_cases h0:n=0
 ·subst h0;have e:Lib.itoa 0=[48]:=by unfold Lib.itoa;rw[aG (by omega)];exact Lib.decDigits_one (by omega)
  rw[e];decide
 by_cases h1:0<n
 ·obtain ⟨v,rfl⟩:∃ v:Nat,n=(v:Int):=⟨n.toNat,by omega⟩;rw[ZV v (by omega)];have:=PJ v (by omega);omega
 obtain ⟨v,rfl⟩:∃ v:Nat,n = -(v:Int):=⟨n.natAbs,by omega⟩;rw[ZW v (by omega)];have:=PJ v (by omega);simp;omega
theorem afM (s:ByteArray):(mr s).size<=2*s.size+1:=by
 unfold mr;split
 ·show 1<=_
  omega
 show (sN s.data.toList).toArray.size<=_
 rw[nh,QP,<- cV];omega
theorem afN (mem:ByteArray) (i:Int) (hm:mem.size=768):(eY mem i).size<=192:=by
 unfold eY;rw[lU];cases hI:bp (ar mem i) with
 | true=>
  have hg:=mH hI;have:=hg.1;omega
 | false=>
  rw[(wM hI).2.2.2];have:(dj mem [] ([]:List Int).length).size=0:=rfl;omega
theorem afO (s:ByteArray):(Lit.int .i64 (cq s)).wf=true:=by
 have:0<=cq s/\cq s<256:=by
  unfold cq;split;·exact Ie s 1
  decide
 simp[Lit.wf,IntKind.min,IntKind.max,IntKind.signed,IntKind.bits];omega
theorem KG (hs:cv mem=true) {x:Nat} (hx:x<8) (hk:bZ mem x≠0):∃ k q,k<=8/\eh (bK mem) x k q/\mo mem x=od q:=by
 obtain ⟨_,_,mR,ht⟩:=xF hs;obtain ⟨k,q,wy,hq⟩:∃ k q,k<=8/\eh (bK mem) x k q:=by
  by_cases h0:x=0
  ·subst h0;exact ⟨0,_,by decide,eh.zero⟩
  have hone:=uY.1 ht x (by omega) hx;unfold lg at hone;simp only[cj,qB,kY] at hone;exact T6 8 x hx (hone.2.resolve_left hk)
 exact ⟨k,q,wy,hq,by rw[mo,(R4 ht (sS mem) hq).2 8 wy,IY]⟩
theorem KJ (hs:cv mem=true) {f:cz} (h:f ∈ di mem):∃ x,x<8/\bZ mem x≠0/\f=sU mem (mo mem) x:=by
 have hu:di mem=fz mem (mo mem) 8:=by unfold di;rw[aF hs]
 rw[hu] at h;exact Tl h
theorem afP (hs:cv mem=true) {a b:cz} (ha:a ∈ di mem) (hb:b ∈ di mem) (e:a.path=b.path):a=b:=by
 obtain ⟨x,mr,hkx,rfl⟩:=KJ hs ha;obtain ⟨y,hy,Wz,rfl⟩:=KJ hs hb;obtain ⟨k,q,_,h1,h2⟩:=KG hs mr hkx;obtain ⟨k',q',_,h1',h2'⟩:=KG hs hy Wz;have e':od q=od q':=by rw[<- h2,<- h2'];exact e
 rw[aeX (aeZ mem) h1 h1' e']
theorem T9 (hs:cv mem=true):∀ s ∈ di mem,s.path.size<=1000/\s.data.size<=1000/\(Lit.int .i64 s.owner).wf=true/\(vO s.owner).size<=30/\(mr s.data).size<=3000:=by
 intro s h;obtain ⟨x,nP,hkx,rfl⟩:=KJ hs h;obtain ⟨k,q,wy,h1,h2⟩:=KG hs nP hkx;have hm:=(xF hs).1;have hp:(mo mem x).size<=120:=by
  have:=h1.size fun i e he=>(JG mem i e he).2;rw[h2];unfold od;split;·decide
  omega
 have hd:(lu mem (x:Int)).size<=192:=by
  unfold lu;split;·decide
  exact afN mem _ hm
 have ho:=afO (ar mem (x:Int));have h4:=afL _ ho;have h5:=afM (lu mem (x:Int));show (mo mem x).size<=1000/\(lu mem (x:Int)).size<=1000/\(Lit.int .i64 (cq (ar mem (x:Int)))).wf=true/\(vO (cq (ar mem (x:Int)))).size<=30/\(mr (lu mem (x:Int))).size<=3000
 exact ⟨by omega,by omega,ho,by omega,by omega⟩
theorem afQ (k:Int):(vP k).size=1:=by unfold vP;split <;> rfl
theorem afR (f:cz):(lG f).size=f.path.size+(vO f.owner).size+(mr f.data).size+5:=by have e:=fK ByteArray.size (aeY ⟨#[]⟩ f);simp only[fk,afQ] at e;have h0:(⟨#[]⟩:ByteArray).size=0:=rfl;have h1:(⟨#[32]⟩:ByteArray).size=1:=rfl;have h2:(⟨#[10]⟩:ByteArray).size=1:=rfl;omega
theorem afS (f:cz):(vQ (xS f)).size+1=(lG f).size:=by unfold lG;rw[fk];rfl
theorem Ua (n:Nat):∀ (l:List cz) (o:ByteArray),(∀ s ∈ l,(lG s).size<=n)->(jd o l).size<=o.size+l.length*n
 | [],o,_=>by simp[jd]
 | f :: r,o,h=>by have h1:=h f D4;have h2:=Ua n r (o++lG f) fun s hs=>h s (tB _ hs);rw[jd];rw[fk] at h2;rw[dA,Nat.succ_mul];omega
theorem KK (hs:cv mem=true):∀ s ∈ di mem,(lG s).size<=5000:=by intro s h;obtain ⟨h1,h2,h3,h4,h5⟩:=T9 hs s h;rw[afR];omega
theorem afT (hs:cv mem=true) (S:List cz) (j:Nat) (hl:S.length<=8) (hm:∀ s ∈ S,s ∈ di mem):(jd ⟨#[]⟩ (S.take j)).size<=100000:=by
 have h:=Ua 5000 (S.take j) ⟨#[]⟩ fun s hs'=>KK hs s (hm s (Xl hs'));have h0:(⟨#[]⟩:ByteArray).size=0:=rfl;have h1:(S.take j).length<=8:=by rw[fO];omega
 omega
end
section
open Go.Sort (Holds HoldsK putRow putRowK flatK grow SWO PermIn SortedIn)
set_option linter.unusedSectionVars false
variable {W : World} {g : Nat} {l : List cz}
variable [Inhabited cz]
theorem Ub (l:List cz):flatK cz.ee 5 l.toArray=(fy l).toArray:=by
 refine Go.Sort.ext_get! (by simp[JO]) fun t ht=>?_;have ht':t<l.length*5:=by simpa using ht
 rw[Go.Sort.get_flatK _ _ _ _ (by simpa using ht')];have h1:t / 5<l.length:=by omega
 have h2:t % 5<5:=by omega
 have h3:=JP l (t / 5) (t % 5) h1 h2;rw[show t / 5*5+t % 5=t by omega] at h3;have hd:l.toArray[t / 5]! = l.getD (t / 5) lE:=by rw[getElem!_pos l.toArray _ (by simpa using h1)];simp[List.getD,h1]
 rw[hd];have e1:(fy l).toArray[t]! = ((fy l)[t]?).getD default:=by simp
 have e2:((l.getD (t / 5) lE).ee)[t % 5]! = (((l.getD (t / 5) lE).ee)[t % 5]?).getD default:=by simp
 rw[e1,e2,h3]
theorem Uc (h:av g (fy l) W):HoldsK cz.ee 5 W g 0 l.toArray:=by
 unfold HoldsK;rw[Ub];intro j hj;have hj':j<(fy l).length:=by simpa using hj
 refine ⟨?_,by simpa using h.free j hj'⟩;rw[cR,h.cell j hj'];simp[hj']
theorem afU (hg:g<W.heap.size) (h:HoldsK cz.ee 5 W g 0 l.toArray):av g (fy l) W:=by
 unfold HoldsK at h;rw[Ub] at h;refine ⟨fun j hj=>?_,fun j hj=>?_,hg⟩
 ·have:=(h j (by simpa using hj)).1;rw[cR] at this;rw[this];simp[hj]
 have:=(h j (by simpa using hj)).2;rwa [cR] at this
theorem afV {n:Nat} {d:Array cz} {os:Array Obj} (h:av g (fy l) W) (hl:d.size=l.length):av g (fy d.toList) (sortWorldK cz.ee 5 W g 0 n d os):=by
 have h0:Holds id (Sort.ahead W n) g 0 (flatK cz.ee 5 l.toArray):=Go.Sort.holds_ahead _ _ _ _ _ _ (Uc h);have hlt:g<(putRowK cz.ee 5 (Sort.ahead W n) g 0 d).heap.size:=by unfold putRowK;rw[Bc];exact h.lt
 refine afU (by unfold sortWorldK;rw[NF];omega) ?_;show Holds id (grow (putRow id (Sort.ahead W n) g 0 (flatK cz.ee 5 d)) os) g 0 (flatK cz.ee 5 d)
 exact Go.Sort.holds_grow _ _ _ _ _ _ hlt (Go.Sort.holds_putRow _ _ _ _ _ _ h0 (by simp[hl]))
theorem afW {n base:Nat} {d:Array cz} {os:Array Obj} (hb:base<=g) (hg:base<=W.heap.size):Below base W (sortWorldK cz.ee 5 W g 0 n d os):=by
 refine ⟨rfl,rfl,rfl,?_,fun k hk=>?_⟩
 ·unfold sortWorldK putRowK;rw[NF,Bc];exact sh _ _
 unfold sortWorldK putRowK;rw[Go.Sort.heap_grow_old _ _ (by rw[Bc];exact cS hk hg)];show (W.heap.modify g _)[k]? = W.heap[k]?
 rw[NG];rw[aG (by omega)]
def rv (x y:cz):Int:=Lib.compareBytes x.path.toList y.path.toList
theorem Ud (x y:cz):ltOf rv x y=oy x.path y.path:=QZ _ _
theorem afX:SWO (ltOf rv):=by
 have e:ltOf rv=fun x y=>oy x.path y.path:=by funext x y;exact Ud x y
 rw[e];exact Q2 _
theorem afY {d':Array cz} (h1:PermIn 0 l.toArray.size l.toArray d') (h2:SortedIn (ltOf rv) 0 l.toArray.size d') (hu:∀ a ∈ l,∀ b ∈ l,a.path=b.path->a=b):d'.toList=rp l:=by
 have e:ltOf rv=fun x y=>oy x.path y.path:=by funext x y;exact Ud x y
 rw[e] at h2;have:=acb (Q2 (fun f:cz=>f.path)) h1 h2 (fun a ha b hb x y=>hu a (by simpa using ha) b (by simpa using hb) (aca x y));simpa [rp] using this
end
section
open Go.Sort (grow grow_grow alloc_eq_grow)
theorem afZ (x y:cz) (W:World):Calls prog 47 #[.agg #[.int .i64 x.ino,.string x.path,.int .i64 x.kind,.int .i64 x.owner,.string x.data],.agg #[.int .i64 y.ino,.string y.path,.int .i64 y.kind,.int .i64 y.owner,.string y.data]] W fun e w'=>e=.returned (.int .i64 (rv x y))/\∃ q os',w'=grow (W.drewN q) os':=by
 have hcon:∀ W',Calls prog 48 #[.string x.path,.string y.path] W' fun e w'=>e=.returned (.int .i64 (rv x y))/\w'=W':=fun W'=>by have h:=Tryz.strings_Compare x.path y.path W';rwa [show Lib.compareBytes x.path.data.toList y.path.data.toList=rv x y by rw[rv,pH,pH]] at h
 generalize rv x y=r at hcon ⊢;go_enter func47,ntmps47;go_wp2_with (go_at_call 48;refine (hcon _).mono ?_;rintro e w' ⟨rfl,rfl⟩);go_ret;exact ⟨rfl,0,_,by rw[alloc_eq_grow,alloc_eq_grow,grow_grow];rfl⟩
theorem af0 (l:List cz) (c g:Nat) (W:World) (hl:l.length<=1000) (h:av g (fy l) W) (hu:∀ a ∈ l,∀ b ∈ l,a.path=b.path->a=b):Calls prog 46 #[.slice (some ⟨g,0,none⟩) l.length c,.func (.func 47) #[] #[]] W fun e w'=>e=.returned (.tuple #[])/\av g (fy (rp l)) w'/\∀ base,base<=g->base<=W.heap.size->Below base W w':=by
 haveI:Inhabited cz:=⟨lE⟩
 have eg:∀ args w,(callFunc 47 args).run prog w=.ok (.enter 47 args) w:=bh func47 (by kernel_rfl) rfl;have hcon:=AnyQ.slices_SortFunc Tryz.sortFl 5 isAgg75 sizeOf75 cz.ee (fun _=>rfl) R3 rv afX 47 #[] g 0 c l.toArray W eg (fun m os dk hs x y=>afZ x y _) (Uc h) h.lt (by rw[nh];omega);change Calls prog 46 _ _ _ at hcon;rw[nh] at hcon;refine hcon.mono ?_;rintro e w' ⟨rfl,d',n,os,hp,hs,rfl⟩;have hd:=afY (l:=l) (by rw[nh];exact hp) (by rw[nh];exact hs) hu;refine ⟨rfl,?_,fun base h1 h2=>afW h1 h2⟩;rw[<- hd];exact afV h (by have:=hp.1;rw[this,nh])
theorem Ue (mem:ByteArray) (w:World) (hms:mem.size<=281474976710656) (hs:cv mem=true) (ht:kR w):Calls prog 11 #[.string mem] w fun e w'=>e=.returned (.string (vU mem))/\Below w.heap.size w w':=by
 have hr:=RG mem w hms;have hA:Hid (∀ e w',zR mem w e w'->∃ p,e=.returned (.tuple #[.pointer p,.bool (cv mem)])/\Below w.heap.size w w'/\(cv mem=true->∃ B N F P,p=some ⟨B,0,none⟩/\w.heap.size<=B/\nJ mem B N F P w')):=fun e w' h=>h;have e:vU mem=jd ⟨#[]⟩ (rp (di mem)):=by unfold vU;rw[aF hs]
 rw[e];have hmem:∀ s ∈ rp (di mem),s ∈ di mem:=fun s h=>by have:=(Fy (fun a b:cz=>oy a.path b.path) (di mem) []).mem_iff.1 h;simpa using this
 obtain ⟨_,_,mR,htr⟩:=xF hs;have hu:di mem=fz mem (mo mem) 8:=by unfold di;rw[aF hs]
 have hlen:(di mem).length<=8:=by rw[hu];exact FV mem _ 8
 have HP:Hid (∀ B N F P W,nJ mem B N F P W->Calls prog 45 #[.pointer (some ⟨B,0,none⟩)] W fun e w'=>∃ g c,e=.returned (.slice (some ⟨g,0,none⟩) (di mem).length c)/\W.heap.size<=g/\av g (fy (di mem)) w'/\Below W.heap.size W w'):=fun B N F P W h=>by rw[hu,<- JQ 8 fun x hx hk=>(R7 h.inv mR htr hx hk).1];exact R8 W h
 have HS:Hid (∀ g c W,av g (fy (di mem)) W->_):=fun g c W h=>af0 (di mem) c g W (by omega) h fun a ha b hb=>afP hs ha hb;have HL:Hid (∀ s ∈ rp (di mem),∀ W,kR W->Calls prog 49 #[.agg #[.int .i64 s.ino,.string s.path,.int .i64 s.kind,.int .i64 s.owner,.string s.data]] W fun e w'=>e=.returned (.string (lG s))/\Below W.heap.size W w'):=fun s h W t=>by have m:=T9 hs s (hmem s h);have l:=KK hs s (hmem s h);have g:=afS s;exact ae1 s W (by omega) m.2.2.1 (by omega) t
 have HC:Hid (∀ j,(jd ⟨#[]⟩ ((rp (di mem)).take j)).size<=100000):=fun j=>afT hs _ j (by rw[T7];exact hlen) hmem;have HB:Hid (∀ s ∈ rp (di mem),(lG s).size<=5000):=fun s h=>KK hs s (hmem s h);have VX:=T7 (di mem);rw[hs] at hA;have HT:Hid (kR w):=ht;generalize rp (di mem)=S at HS HL HC HB VX ⊢;generalize di mem=F at HP HS VX hlen;clear hs e hu hmem mR htr ht hms;go_enter func11,ntmps11;go_wp2_with (first
  | (go_at_call 44;refine hr.mono ?_;intro e w1 hans;obtain ⟨p,rfl,b1,hy⟩:=hA.out _ _ hans;clear hans;obtain ⟨B,N,F',P,rfl,hB,hg⟩:=hy (by trivial);clear hy)
  | (go_at_call 45;refine (HP.out _ _ _ _ _ hg).mono ?_;rintro e w2 ⟨g,c,rfl,hg2,k2,b2⟩;have l2:=b1.trans (b2.mono b1.size);have hgw:=bt b1.size hg2)
  | (go_at_call 46;refine (HS.out _ _ _ k2).mono ?_;rintro e w3 ⟨rfl,k3,b3⟩;have l3:=l2.trans (b3 _ hgw l2.size)))
 clear hr hA HP HS;go_loopg [6,22] F.length (fun gk v i W=>∃ j:Nat,j+gk=F.length/\i=.int .i64 j/\v=.string (jd ⟨#[]⟩ (S.take j))/\av g (fy S) W/\Below w.heap.size w W)
 case atStart=>exact ⟨0,by omega,rfl,rfl,k3,l3⟩
 case round=>
 obtain ⟨j,hj,rfl,rfl,Mu,l4⟩:=hrel;clear k2 l2 b2 b1 hg k3 b3 l3 hB hg2;by_cases hjn:j<F.length
 ·obtain ⟨x0,x1,x2,x3,x4⟩:=RZ Mu (i:=j) (by omega);have d1:(0:Int)<=(j:Int):=by omega
  have d2:(j:Int)<(F.length:Int):=by omega
  have hst:=afK S j (by omega) ⟨#[]⟩;have hL:=HL.out S[j] (nQ (by omega));have hB:=HB.out S[j] (nQ (by omega));rw[show S[j]=S.getD j lE by simp[List.getD,show j<S.length by omega]] at hst hL hB;obtain ⟨s,hs'⟩:∃ s,S.getD j lE=s:=⟨_,rfl⟩;rw[hs'] at x0 x1 x2 x3 x4 hst hL hB;have hcs:(jd ⟨#[]⟩ (S.take j)).size<=100000:=HC.out j;obtain ⟨o,ho⟩:∃ o,jd ⟨#[]⟩ (S.take j)=o:=⟨_,rfl⟩;rw[ho] at hst hcs ⊢;have AH:Hid (∀ W,kR W->Calls prog 49 #[.agg #[.int .i64 s.ino,.string s.path,.int .i64 s.kind,.int .i64 s.owner,.string s.data]] W fun e w'=>e=.returned (.string (lG s))/\Below W.heap.size W w'):=hL;obtain ⟨L,hL'⟩:∃ L,lG s=L:=⟨_,rfl⟩;rw[hL'] at AH hst hB;have HO:Hid (jd ⟨#[]⟩ (S.take (j+1))=o++L):=hst;have s1:¬ (9223372036854775807<o.size+L.size):=by omega
  have nl:=aB wr (.cells #[.int .i64 s.ino,.string s.path,.int .i64 s.kind,.int .i64 s.owner,.string s.data] 75);have nb:=bu [.int .i64 s.ino,.string s.path,.int .i64 s.kind,.int .i64 s.owner,.string s.data] wr 75;have kb5:=Mu.below nl;have l5:=l4.trans (nl.mono l4.size);have z0:=nb.c0;have z1:=nb.c1;have z2:=nb.c2;have z3:=nb.c3;have z4:=Ko nb;have t5:=HT.out.below l5;clear hst hL nb nl Mu l4 ho hs' hL';go_wp2_with (go_at_call 49;refine (AH.out _ t5).mono ?_;rintro e w6 ⟨rfl,b6⟩;have kb6:=kb5.below b6;have l6:=l5.trans (b6.mono l5.size));go_roundg (F.length-(j+1))
  case measure=>omega
  case rel=>exact ⟨j+1,by omega,by go_num,by rw[HO.out],kb6,l6⟩
 have d2:¬ ((j:Int)<(F.length:Int)):=by omega
 have HV:Hid (jd ⟨#[]⟩ (S.take j)=jd ⟨#[]⟩ S):=by
  show jd ⟨#[]⟩ (S.take j)=jd ⟨#[]⟩ S
  rw[qx (by omega)]
 go_wp2;go_ret;exact ⟨afJ HV.out,l4⟩
end
theorem Uf (a b:ByteArray) (zs:List Int) {j:Nat} (hj:j<768):cM (eT a b zs) j=if ox zs (j / 8) then cM a j else cM b j:=by
 unfold cM eT;show ((cK _ _ _).toArray.toList).getD j 0=_
 rw[List.toList_toArray,jR,nY _ _ _ _ hj];rfl
theorem Ug {k:aL} (h:fj k=true) (zs:List Int):∃ u:ByteArray,mq k zs=⟨u,u,[],k.ck⟩/\u.size=768/\fj ⟨u,u,[],k.ck⟩=true/\(cv u=true/\cv (bM k)=true/\vU u=vU (bM k))/\mq ⟨u,u,[],k.ck⟩ zs=⟨u,u,[],k.ck⟩:=by
 obtain ⟨h1,h2,h3,h4,h5,-⟩:=CJ h;have hl:KE k (eT k.mem k.ay zs):=⟨CD _ _ _,fun j hj=>by
  rw[Uf _ _ _ hj];split;·exact Or.inl rfl
  exact Or.inr rfl⟩
 have T:=afH h (hl.out h);have hs:=T.sound.trans h3;have hr:=afI (c:=k.ck) T.s' h4 hs;refine ⟨dB k.ds (eT k.mem k.ay zs) k.ds.length,?_,T.s',hr,⟨hs,h3,?_⟩,?_⟩;·rw[mq,aF h,qd,afE (CD _ _ _) (fun i hi=>(h5 i hi).1)]
 ·unfold vU;rw[T.sound,T.files]
 rw[mq,aF hr,qd];obtain ⟨u,hu⟩:∃ u,dB k.ds (eT k.mem k.ay zs) k.ds.length=u:=⟨_,rfl⟩;have jz:=T.s';rw[hu] at jz ⊢;have e:eT u u zs=u:=TO (CD _ _ _) jz fun j hj=>by rw[Uf _ _ _ hj];split <;> rfl
 show (⟨eT u u zs,eT u u zs,[],k.ck⟩:aL)=_
 rw[e]
end Go.Proofs.YtidmmopnkjbjoaaGreatDoor
