/- Joined texts. -/
import Derived.Test.YtgpfmgaidbjcpaaGreatDoorJhZB
import Derived.Test.YtgpfmgaidbjcpaaGreatDoorJhZA
import Derived.Test.YtgpfmgaidbjcpaaGreatDoorJhZ
import Derived.Test.YtgpfmgaidbjcpaaGreatDoorJhX
set_option linter.unusedVariables false
set_option linter.unusedSimpArgs false
set_option maxRecDepth 10000
set_option maxHeartbeats 16000000
namespace Go.Proofs.YtgpfmgaidbjcpaaGreatDoor
open ChangeShapes WideShapes ChangeAt RowKit
open Go.Proofs.Tryz
theorem Up (n k:Nat):∀ (l:List (Int × ByteArray)),(∃ p ∈ l,dq n p.1 p.2.size=true/\p.1<=(k:Int)/\(k:Int)<p.1+(p.2.size:Int))->∃ v,∀ m:ByteArray,m.size=n->mI (cF m l) k=v
 | [],h=>by obtain ⟨p,hp,-⟩:=h;simp at hp
 | p :: r,h=>by
  rcases Ua n k r with ⟨v,hv⟩ | h';·exact ⟨v,fun m hm=>hv _ (by rw[oP,hm])⟩
  ·obtain ⟨q,hq,hc⟩:=h;rcases jC.1 hq with rfl | hq
   ·refine ⟨mI q.2 (k-q.1.toNat),fun m hm=>?_⟩;rw[cF,h' _ (by rw[oP,hm]),Aj,aN (by rw[hm];exact hc)]
   obtain ⟨v,hv⟩:=Up n k r ⟨q,hq,hc⟩;exact ⟨v,fun m hm=>hv _ (by rw[oP,hm])⟩
def um (ds:List ai):Nat->List (Int × ByteArray)
 | 0=>[]
 | k+1=>um ds k++ma (aJ ds k)
theorem Gl {ds:List ai} {p:Int × ByteArray}:∀ {n:Nat},p ∈ um ds n ↔ ∃ i,i<n/\p ∈ ma (aJ ds i)
 | 0=>by simp[um]
 | n+1=>by
  rw[um,mr,Gl (n:=n)];constructor
  ·rintro (⟨i,hi,h⟩ | h);·exact ⟨i,by omega,h⟩
   exact ⟨n,by omega,h⟩
  ·rintro ⟨i,hi,h⟩;by_cases e:i=n
   ·subst e;exact Or.inr h
   exact Or.inl ⟨i,by omega,h⟩
theorem CW {ds:List ai} {m:ByteArray} (hm:m.size=768):∀ n,(∀ i,i<n->bZ (aJ ds i)=true)->lr ds m n=cF m (um ds n)
 | 0,_=>rfl
 | n+1,h=>by rw[lr,CW hm n (fun i hi=>h i (by omega)),um,Ak,gC,aN ⟨h n (by omega),by rw[qm];exact hm⟩,Ud]
theorem Uq {s:ByteArray} {i:Int} {n:Nat} (h:dq s.size i n=true):(aX s i n).size=n:=by obtain ⟨h0,h1,h2⟩:=su h;rw[aX,aN h,pH];omega
theorem Ur {s:ByteArray} {n k:Nat} (h:s.size=n*32) (hk:k<n):dq s.size ((k:Int)*32) (32:Int)=true:=bK (by omega)
theorem ahf {d:ai} (h:bZ d=true) {p:Int × ByteArray} (hp:p ∈ ma d):p.1=aZ d.ino/\p.2.size=16\/(∃ z ∈ d.pg,p.1=z*32/\p.2.size=32)\/∃ z ∈ d.fr,p.1=aZ z/\p.2.size=16:=by
 obtain ⟨-,-,-,hsv,-⟩:=jt h;unfold ma at hp;rcases jC.1 hp with rfl | hp;·exact Or.inl ⟨rfl,Uf h⟩
 rcases mr.1 hp with hp | hp
 ·unfold CU at hp;obtain ⟨k,hk,rfl⟩:=sq.1 hp;have hk':k<d.pg.length:=by simpa using hk
  refine Or.inr (Or.inl ⟨d.pg.getD k 0,?_,rfl,Uq (n:=32) (Ur hsv (by omega))⟩);rw[jl,gM hk'];exact ny _
 obtain ⟨z,hz,e1,e2⟩:=agP hp;exact Or.inr (Or.inr ⟨z,hz,e1,e2⟩)
theorem ahg {d:ai} (h:bZ d=true):∃ p ∈ ma d,p.1=aZ d.ino/\p.2.size=16:=⟨_,List.mem_cons_self,rfl,Uf h⟩
theorem Us {d:ai} (h:bZ d=true) {z:Int} (hz:z ∈ d.pg):∃ p ∈ ma d,p.1=z*32/\p.2.size=32:=by obtain ⟨-,-,-,hsv,-⟩:=jt h;obtain ⟨k,hk,rfl⟩:=Ox hz;refine ⟨(d.pg.getD k 0*32,aX d.aU ((k:Int)*32) 32),yW _ (List.mem_append_left _ (sq.2 ⟨k,by simpa using hk,rfl⟩)),?_,Uq (n:=32) (Ur hsv (by omega))⟩;rw[jl,gM hk];rfl
theorem ahh {d:ai} (h:bZ d=true) {z:Int} (hz:z ∈ d.fr):∃ p ∈ ma d,p.1=aZ z/\p.2.size=16:=by obtain ⟨k,hk,rfl⟩:=Ox hz;refine ⟨(aZ (d.fr.getD k 0),bG 16),yW _ (DU _ (sq.2 ⟨k,by simpa using hk,rfl⟩)),?_,Ue⟩;rw[jl,gM hk];rfl
theorem Ut {z:Int} (h0:0<=z) (h7:z<=7):aZ z=32+z*16:=agR h0 h7
theorem K2 {d:ai} (h:bZ d=true) {z:Int} (hz:z ∈ d.pg\/z ∈ d.po):5<=z/\z<=23:=by obtain ⟨-,-,-,-,-,-,-,-,-,kc,-⟩:=jt h;rw[nM] at kc;exact kc.1 z (mr.2 hz)
theorem ahi {d:ai} (h:bZ d=true) {p:Int × ByteArray} (hp:p ∈ ma d):dq 768 p.1 p.2.size=true:=by
 obtain ⟨-,-,-,-,hi,-,-,-,-,-,hfr,-⟩:=jt h;rcases ahf h hp with ⟨e1,e2⟩ | ⟨z,hz,e1,e2⟩ | ⟨z,hz,e1,e2⟩
 ·rw[e1,e2,Ut hi.1 hi.2];exact bK (by omega)
 ·have:=K2 h (Or.inl hz);rw[e1,e2];exact bK (by omega)
 have:=hfr z hz;rw[e1,e2,Ut (by omega) (by omega)];exact bK (by omega)
theorem ahj {d:ai} (h:bZ d=true) {r:bJ} (hr:r ∈ bD d) {j:Nat} (hc:r.1<=(j:Int)/\(j:Int)<r.1+r.2) (hn:∀ p ∈ ma d,¬ (p.1<=(j:Int)/\(j:Int)<p.1+(p.2.size:Int))):∃ z ∈ d.po,z*32<=(j:Int)/\(j:Int)<z*32+32:=by
 rw[agQ h] at hr;simp only[mr,sq,pK] at hr;rcases hr with ((hr | ⟨z,hz,hr⟩) | ⟨z,hz,hr⟩) | ⟨z,hz,hr⟩
 ·obtain ⟨p,hp,e1,e2⟩:=ahg h;subst hr;exact absurd hc (by have:=hn p hp;rw[e1,e2] at this;exact this)
 ·obtain ⟨p,hp,e1,e2⟩:=Us h hz;subst hr;exact absurd hc (by have:=hn p hp;rw[e1,e2] at this;exact this)
 ·subst hr;exact ⟨z,hz,hc⟩
 obtain ⟨p,hp,e1,e2⟩:=ahh h hz;subst hr;exact absurd hc (by have:=hn p hp;rw[e1,e2] at this;exact this)
def xT (rs:List bJ) (j:Nat):Nat->Bool
 | 0=>false
 | k+1=>CK (bB rs k) j || xT rs j k
def ta (ds:List ai) (j:Nat):Nat->Bool
 | 0=>false
 | k+1=>xT (bD (aJ ds k)) j (bD (aJ ds k)).length || ta ds j k
theorem Uu (a b:ByteArray) (rs:List bJ) (hin:∀ r ∈ rs,0<=r.1/\16<=r.2/\r.1+r.2<=768) (h8:∀ r ∈ rs,r.1 % 8=0/\r.2 % 8=0) (j:Nat) (hj:j<768):∀ k,k<=rs.length->eO (jg a b rs k) j=if xT rs j k then eO a j else eO b j
 | 0,_=>rfl
 | k+1,hk=>by
  have hm:bB rs k ∈ rs:=by rw[oK _ _ (by omega)];exact ny _
  obtain ⟨i1,i2,i3⟩:=hin _ hm;obtain ⟨e1,e2⟩:=h8 _ hm;rw[jg,afs _ _ _ _ hj i1 i2 e1 e2,Uu a b rs hin h8 j hj k (by omega)];exact SU _ _ _ _
theorem K3 (a b:ByteArray) (ds:List ai) (j:Nat) (hj:j<768):∀ k,eO (nX a b ds k) j=if ta ds j k then eO a j else eO b j
 | 0=>rfl
 | k+1=>by rw[nX,Uu _ _ _ (FZ _) (afr _) j hj _ (av _),K3 a b ds j hj k];exact SU _ _ _ _
theorem Uv {rs:List bJ} {j:Nat}:∀ {k:Nat},k<=rs.length->(xT rs j k=true ↔ ∃ i,i<k/\(bB rs i).1<=(j:Int)/\(j:Int)<(bB rs i).1+(bB rs i).2)
 | 0,_=>by simp[xT]
 | k+1,h=>by
  rw[xT,nx,Uv (k:=k) (by omega),CK,dp];constructor
  ·rintro (h1 | ⟨i,hi,h1⟩);·exact ⟨k,by omega,h1⟩
   exact ⟨i,by omega,h1⟩
  ·rintro ⟨i,hi,h1⟩;by_cases e:i=k
   ·subst e;exact Or.inl h1
   exact Or.inr ⟨i,by omega,h1⟩
theorem K4 {ds:List ai} {j:Nat}:∀ {k:Nat},ta ds j k=true ↔ ∃ i,i<k/\∃ r ∈ bD (aJ ds i),r.1<=(j:Int)/\(j:Int)<r.1+r.2
 | 0=>by simp[ta]
 | k+1=>by
  have e:xT (bD (aJ ds k)) j (bD (aJ ds k)).length=true ↔ ∃ r ∈ bD (aJ ds k),r.1<=(j:Int)/\(j:Int)<r.1+r.2:=by
   rw[Uv (av _)];constructor
   ·rintro ⟨i,hi,h⟩;exact ⟨_,by rw[oK _ _ hi];exact ny _,h⟩
   rintro ⟨r,hr,h⟩;obtain ⟨i,hi,rfl⟩:=Ox hr;exact ⟨i,hi,by rw[oK _ _ hi];exact h⟩
  rw[ta,nx,e,K4 (k:=k)];constructor
  ·rintro (h | ⟨i,hi,h⟩);·exact ⟨k,by omega,h⟩
   exact ⟨i,by omega,h⟩
  ·rintro ⟨i,hi,h⟩;by_cases e:i=k
   ·subst e;exact Or.inl h
   exact Or.inr ⟨i,by omega,h⟩
theorem Gm {s:ByteArray} (hs:s.size=768) {j:Nat} (hj:j<768):mI s j=some (eO s j):=zO (by rw[<- hs];exact (dX s).symm) hj
theorem Gn {s t:ByteArray} {j:Nat} (h:mI s j=mI t j):eO s j=eO t j:=by unfold eO;rw[jl,jl];exact iw (fun x=>Option.getD x 0) h
theorem ahk {s t:ByteArray} (hs:s.size=768) (ht:t.size=768) (h:∀ j,j<768->eO s j=eO t j):s=t:=by have:=(Kj hs ht).2 h;rw[tH,D9,D9] at this;exact kD (sk.1 this)
theorem Gp {k:bz} (h:fj k=true):k.mem.size=768/\k.aL.size=768/\cq (cD k)=true/\(0<=k.ck/\k.ck<=999999)/\(∀ i,i<k.ds.length->bZ (aJ k.ds i)=true/\∀ z ∈ (aJ k.ds i).po,¬ z ∈ cj (cD k))/\∀ j,j<768->ta k.ds j k.ds.length=false->eO k.mem j=eO k.aL j:=by
 simp only[fj,ca,oy,wI] at h;obtain ⟨h1,h2,h3,-,h5,h6,-,-,h9⟩:=h;obtain ⟨m1,m2⟩:=BP h1;refine ⟨m1,m2,h5,⟨by omega,by omega⟩,fun i hi=>?_,fun j hj hc=>?_⟩
 ·have:=kH.1 h6 i hi;simp only[mE,tV,ca] at this;exact ⟨this.1,PC.1 this.2.2.2.2⟩
 have:=(Kj m1 (F6 _ _ _ m2 _)).1 h9 j hj;rw[K3 _ _ _ _ hj,hc] at this;exact this
structure vK (k:bz) (q:ByteArray):Prop where
 size:q.size=768
 byte:∀ j,j<768->ta k.ds j k.ds.length=false->eO q j=eO k.mem j
theorem Uw {k:bz} (h:fj k=true) {q:ByteArray} (hq:vK k q) {j i:Nat} (hi:i<k.ds.length) {p:Int × ByteArray} (hp:p ∈ ma (aJ k.ds i)) (hx:p.1<=(j:Int)/\(j:Int)<p.1+(p.2.size:Int)):eO (lr k.ds q k.ds.length) j=eO (cD k) j:=by
 obtain ⟨m1,-,-,-,hl,-⟩:=Gp h;have hl':=fun i hi=>(hl i hi).1;unfold cD;rw[CW hq.size _ hl',CW m1 _ hl'];apply Gn
 obtain ⟨v,hv⟩:=Up 768 j (um k.ds k.ds.length) ⟨p,Gl.2 ⟨i,hi,hp⟩,ahi (hl' i hi) hp,hx⟩;rw[hv _ hq.size,hv _ m1]
theorem Ux {k:bz} (h:fj k=true) {q:ByteArray} (hq:vK k q) {j:Nat} (hj:j<768) (hu:∀ i,i<k.ds.length->∀ z ∈ (aJ k.ds i).po,¬ (z*32<=(j:Int)/\(j:Int)<z*32+32)):eO (lr k.ds q k.ds.length) j=eO (cD k) j:=by
 obtain ⟨m1,-,-,-,hl,-⟩:=Gp h;have hl':=fun i hi=>(hl i hi).1;by_cases hc:∃ p ∈ um k.ds k.ds.length,p.1<=(j:Int)/\(j:Int)<p.1+(p.2.size:Int)
 ·obtain ⟨p,hp,hx⟩:=hc;obtain ⟨i,hi,hp'⟩:=Gl.1 hp;exact Uw h hq hi hp' hx
 have hn:∀ p ∈ um k.ds k.ds.length,¬ (p.1<=(j:Int)/\(j:Int)<p.1+(p.2.size:Int)):=fun p hp hx=>hc ⟨p,hp,hx⟩;unfold cD;rw[CW hq.size _ hl',CW m1 _ hl'];apply Gn
 rw[KT j _ q hn,KT j _ k.mem hn,Gm hq.size hj,Gm m1 hj];congr 1;refine hq.byte j hj ?_;cases hcv:ta k.ds j k.ds.length with
 | false=>rfl
 | true=>
  obtain ⟨i,hi,r,hr,hx⟩:=K4.1 hcv;obtain ⟨z,hz,hz'⟩:=ahj (hl' i hi) hr hx fun p hp=>hn p (Gl.2 ⟨i,hi,hp⟩);exact absurd hz' (hu i hi z hz)
section
theorem K5 {s t:ByteArray} (hs:s.size=768) (ht:t.size=768) {i n:Int} (h:∀ j:Nat,j<768->i<=(j:Int)->(j:Int)<i+n->eO s j=eO t j):aX s i n=aX t i n:=by
 unfold aX;rw[hs,ht];split
 ·rename_i hl;obtain ⟨h0,h1,h2⟩:=su hl;apply kD;apply sk.1;rw[wH,wH];apply wL;intro j;rw[yZ,yZ];split
  ·rename_i hj;rw[tJ,tJ];have hk:i.toNat+j<768:=by omega
   have e1:=Gm hs hk;have e2:=Gm ht hk;unfold mI at e1 e2;rw[e1,e2,h _ hk (by omega) (by omega)]
  rfl
 rfl
structure lG (t t':ByteArray):Prop where
 s:t.size=768
 s':t'.size=768
 low:∀ j,j<160->eO t' j=eO t j
 pgs:∀ z ∈ dJ (eo t) 8,∀ j:Nat,j<768->z*32<=(j:Int)->(j:Int)<z*32+32->eO t' j=eO t j
variable {t t' : ByteArray}
theorem lG.yv (h:lG t t') (i:Int):aj t' i=aj t i:=by
 unfold aj aZ;split
 ·rename_i hb;obtain ⟨h0,h7⟩:=nK.1 hb;exact K5 h.s' h.s fun j hj h1 h2=>h.low j (by omega)
 unfold aX;rw[h.s,h.s'];rfl
theorem Uy {Z:Nat->List Int} {z:Int}:∀ {n i:Nat},i<n->z ∈ Z i->z ∈ dJ Z n
 | 0,i,hi,_=>by omega
 | n+1,i,hi,hz=>by
  rw[dJ,mr];by_cases e:i=n
  ·subst e;exact Or.inr hz
  ·exact Or.inl (Uy (by omega) hz)
theorem K6 {zs:List Int} (hs:t.size=768) (hs':t'.size=768) (h:∀ z ∈ zs,∀ j:Nat,j<768->z*32<=(j:Int)->(j:Int)<z*32+32->eO t' j=eO t j):∀ n,n<=zs.length->di t' zs n=di t zs n
 | 0,_=>rfl
 | n+1,hn=>by
  have hm:zs.getD n 0 ∈ zs:=by rw[jl,gM (by omega)];exact ny _
  rw[di,di,K6 hs hs' h n (by omega),K5 hs' hs (h _ hm)]
theorem ahl {m:ByteArray} {i:Nat} (h:¬ i<8):aj m (i:Int)=⟨#[]⟩:=by unfold aj aZ;rw[aM (fun hb=>by have:=(nK.1 hb).2;omega),aX,aM (by simp[dq])]
theorem lG.data (h:lG t t') (i:Nat):jH t' (i:Int)=jH t (i:Int):=by
 unfold jH;rw[h.yv];congr 1;refine K6 h.s h.s' (fun z hz=>?_) _ (av _);by_cases hi:i<8;·exact h.pgs z (Uy hi hz)
 rw[ahl hi] at hz;have e:aD ⟨#[]⟩=[]:=by decide +kernel
 rw[e] at hz;simp at hz
theorem lG.tK (h:lG t t'):cO t'=cO t:=funext fun i=>by unfold cO;rw[h.yv]
theorem lG.tZ (h:lG t t'):eo t'=eo t:=funext fun i=>by unfold eo;rw[h.yv]
theorem lG.tE (h:lG t t'):bQ t'=bQ t:=funext fun i=>by unfold bQ cP;rw[h.yv,h.data]
theorem lG.sound (h:lG t t'):cq t'=cq t:=by
 unfold cq vz kN;rw[h.tK,h.tZ,h.tE,h.s,h.s',K5 h.s' h.s (i:=0) (n:=32) fun j hj h1 h2=>h.low j (by omega)];have e:(fun i:Nat=>dD t' (i:Int))=fun i:Nat=>dD t (i:Int):=funext fun i=>by unfold dD;rw[h.yv,h.data]
 rw[e]
theorem lG.Yn (h:lG t t') (P:Nat->ByteArray):∀ n,iE t' P n=iE t P n
 | 0=>rfl
 | n+1=>by
  have e:vB t' P n=vB t P n:=by unfold vB qg;rw[h.tK,h.yv,h.data]
  rw[iE,iE,lG.Yn h P n,h.tK,e]
theorem lG.files (h:lG t t'):kn t'=kn t:=by
 have e:tW t'=tW t:=funext fun i=>by unfold tW;rw[h.tE]
 unfold kn;rw[h.sound,h.Yn,e]
theorem ahm {k:bz} (h:fj k=true) {q:ByteArray} (hq:vK k q):lG (cD k) (lr k.ds q k.ds.length):=by
 obtain ⟨m1,m2,hs,-,hl,-⟩:=Gp h;refine ⟨(xu _ _ _).trans m1,(xu _ _ _).trans hq.size,fun j hj=>?_,fun z hz j hj h1 h2=>?_⟩
 ·refine Ux h hq (by omega) fun i hi z hz=>?_;have:=K2 (hl i hi).1 (Or.inr hz);omega
 refine Ux h hq hj fun i hi x hx h3=>?_;obtain rfl:x=z:=by omega
 refine (hl i hi).2 x hx ?_;unfold cj;rw[aN hs];exact (J9 _).mem_iff.2 hz
theorem ahn {m:ByteArray} {c:Int} (hm:m.size=768) (hc:0<=c/\c<=999999) (hs:cq m=true):fj ⟨m,m,[],c⟩=true:=by
 have e:cD ⟨m,m,[],c⟩=m:=rfl;have e2:nX m m [] 0=m:=rfl;have h1:decide (c<0)=false:=bA (by omega);have h2:decide (999999<c)=false:=bA (by omega);have h3:ff (fM [])=true:=by decide +kernel
 have h4:gV (fM []++kQ [])=true:=by decide +kernel
 have h5:gV (rv [])=true:=by decide +kernel
 simp only[fj,CH,e,hs,dY,hm,gv,e2,BEq.rfl,h1,h2,h3,h4,h5,aaH];rfl
end
theorem Uz {k:bz} (h:fj k=true) {q b:ByteArray} (hq:vK k q) (hb:vK k b):fj ⟨q,b,k.ds,k.ck⟩=true:=by
 have T:=ahm h hq;obtain ⟨-,-,-,-,hl,-⟩:=Gp h;simp only[fj,ca] at h;obtain ⟨h1,h2,h3,h4,h5,h6,h7,h8,h9⟩:=h;have et:cD ⟨q,b,k.ds,k.ck⟩=lr k.ds q k.ds.length:=rfl;have eu:cj (lr k.ds q k.ds.length)=cj (cD k):=by unfold cj;rw[T.sound,T.tZ]
 have ef:dM (lr k.ds q k.ds.length)=dM (cD k):=by unfold dM;rw[T.files]
 simp only[fj,ca];refine ⟨by simp[dY,hq.size,hb.size],h2,h3,h4,by rw[et,T.sound];exact h5,kH.2 fun i hi=>?_,h7,h8,(Kj hq.size (F6 _ _ _ hb.size _)).2 fun j hj=>?_⟩
 ·have hi':=kH.1 h6 i hi;simp only[mE,tV,ca,dp] at hi' ⊢;obtain ⟨a1,a2,a3,a4,a5⟩:=hi';refine ⟨a1,by rw[et,T.yv];exact a2,?_,by rw[et,ef];exact a4,by rw[et,eu];exact a5⟩;rw[et,<- a3];refine K6 T.s T.s' (fun z hz j hj x1 x2=>?_) _ (av _);obtain ⟨p,hp,e1,e2⟩:=Us a1 hz;exact Uw (by simp only[fj,ca];exact ⟨h1,h2,h3,h4,h5,h6,h7,h8,h9⟩) hq hi hp (by rw[e1,e2];exact ⟨x1,x2⟩)
 rw[K3 _ _ _ _ hj];cases hc:ta k.ds j k.ds.length with
 | true=>rfl
 | false=>exact (hq.byte j hj hc).trans (hb.byte j hj hc).symm
theorem UA {cl i n:Int} {ds:List ai} (h:lB cl i n ds=true):(1<=n/\n<=768/\0<=i/\i<=768-n)/\∀ j:Nat,i<=(j:Int)->(j:Int)<i+n->ta ds j ds.length=true:=by obtain ⟨x,hx,h1⟩:=Bd.1 h;have hx:=kY.1 hx;simp only[mX,tX,ca,dp] at h1;obtain ⟨-,hb,hc⟩:=h1;refine ⟨hb,fun j h2 h3=>K4.2 ⟨x,hx,?_⟩⟩;exact Fi.1 (Fj.1 hc j h2 (by omega))
theorem aho {k:bz} {q:ByteArray} (hk:vK k q) {cl i:Int} {t:ByteArray} (hl:lB cl i (t.size:Int) k.ds=true):vK k (bs q i t):=by
 have hs:(bs q i t).size=768:=by rw[oP,hk.size]
 refine ⟨hs,fun j hj hc=>?_⟩;rw[<- hk.byte j hj hc];apply Gn
 rw[Aj,aM];rintro ⟨-,h1,h2⟩;rw[(UA hl).2 j h1 h2] at hc;cases hc
def gu (nm:ByteArray) (es:List aB):List aB:=es.filter fun e=>!(e.2.toList == nm.toList)
theorem ahp (nm:ByteArray) (es:List aB) (k:Nat) (h:k<es.length):gu nm (es.take (k+1))=if ((bl es k).2.toList == nm.toList) then gu nm (es.take k) else gu nm (es.take k) ++ [bl es k]:=by rw[gu,mq h,wJ,mQ _ _ h];cases hb:(es[k].2.toList == nm.toList) <;> simp[gu,hb]
theorem UB (nm:ByteArray) (es:List aB):(gu nm es).length<=es.length:=Ot _ _
theorem ahq {nm:ByteArray} {es:List aB} (h:pO es):pO (gu nm es):=fun j hj=>by rw[mQ _ _ hj];have hm:(gu nm es)[j] ∈ es:=(yX.1 (ny hj)).1;obtain ⟨i,hi,he⟩:=yQ.1 hm;rw[<- he,<- mQ _ _ hi];exact h i hi
def rB (d:ai) (mem nm:ByteArray) (ok:Bool) (E:List aB):List aB:=if (ok && !(decide ((gu nm E).length=E.length))) then lE d mem (gu nm E) else []
def rC (d:ai) (mem nm:ByteArray) (ok:Bool) (E:List aB):Bool:=(ok && !(decide ((gu nm E).length=E.length))) && nf d mem (gu nm E)
theorem ahr {d:ai} {mem nm:ByteArray} {ok:Bool} {E:List aB} (h:(ok && !(decide ((gu nm E).length=E.length)))=false):rC d mem nm ok E=false/\rB d mem nm ok E=[]:=⟨by rw[rC,h];rfl,by rw[rB,h];rfl⟩
theorem ahs {d:ai} {mem nm:ByteArray} {E:List aB} (h:¬ (gu nm E).length=E.length):rC d mem nm true E=nf d mem (gu nm E)/\rB d mem nm true E=lE d mem (gu nm E):=by simp[rC,rB,h]
theorem aht (d:ai) (s:aI) (mem nm:ByteArray) (w:World) (hs:mem.size<=281474976710656) (hF:iV d s) (hpo:d.po.length<=1048576) (hfr:d.fr.length<=1048576) (hR:cJ w d s):Calls prog 113 #[bL d s,.string mem,.string nm] w (ky (rB d mem nm (gn d mem) (cV d mem)) (rC d mem nm (gn d mem) (cV d mem)) w):=by
 have l0:=aA w (.cells #[.int .i64 d.ino,.int .i64 d.cl,.int .i64 d.un,.string d.rc,.slice s.a1 d.pg.length s.c1,.string d.aU,.slice s.a2 d.po.length s.c2,.slice s.a3 d.fr.length s.c3] 31);have x0:=jP d s w 31;have HL:Hid (∀ W,Below w.heap.size w W->cJ W d s):=fun W hb=>hR.below hb;have hnm:Hid (∀ W,_):=fun W=>agD d s mem W hs;have hEl:=KS d mem;have AD:=TY d mem;obtain ⟨E,hE⟩:∃ E,cV d mem=E:=⟨_,rfl⟩;obtain ⟨ok,hok⟩:∃ ok,gn d mem=ok:=⟨_,rfl⟩;rw[hE] at hnm hEl AD ⊢;rw[hok] at hnm ⊢;have hpn:Hid (∀ W a c,cJ W d s->cW W a (gu nm E)->(gu nm E).length<=c->_):=fun W a c h1 h2 h3=>TX d s mem a c (gu nm E) W hs hF hpo hfr (by have:=UB nm E;omega) h3 (ahq AD) h1 h2;clear hE hok hR AD;go_enter func113,ntmps113;go_wp2_with (go_at_call 9;refine (hnm.out _).mono ?_;rintro e w1 ⟨a1,c1,rfl,o1,q1,b1⟩;have l1:=l0.trans (b1.mono l0.size);have x1:=x0.below b1;have n2:=aA w1 (.cells #[.slice none 0 0] 215);have s2:=agx w1);have HW:Hid (∀ W,Below w1.heap.size w1 W->cW W a1 E/\fw w.heap.size d s W/\Below w.heap.size w W):=fun W hW=>⟨o1.row.below hW,x1.below hW,l1.trans (hW.mono l1.size)⟩;clear o1 b1 hnm l1 x1 l0 x0;go_loopw [22] (fun i w'=>∃ (k:Nat) (a':Option Addr) (cap':Nat),k<=E.length/\i=.int .i64 k/\ng w1.heap.size a' (gu nm (E.take k)).length cap' (gu nm (E.take k)) w'/\Below w1.heap.size w1 w') (fun i _=>E.length-(intOf i).toNat);case atStart=>exact ⟨0,none,0,bh _,rfl,s2,n2⟩
 case round=>
 obtain ⟨k,a3,GV,hk,rfl,hsi,hbel⟩:=hrel;clear s2 n2;by_cases hlt:k<E.length
 ·obtain ⟨b,off,rfl,im,hc⟩:=(HW.out _ hbel).1.get hlt;have y1:=(hc k hlt).1;have y2:=(hc k hlt).2;have hsu:=ahp nm E k hlt;have hll:=UB nm (E.take k);have htl:(E.take k).length<=E.length:=by simp;omega
  obtain ⟨z,ez⟩:∃ z,bl E k=z:=⟨_,rfl⟩;rw[ez] at y1 y2 hsu;obtain ⟨u,v⟩:=z;simp only at y1 y2 hsu;obtain ⟨acc,ea⟩:∃ acc,gu nm (E.take k)=acc:=⟨_,rfl⟩;rw[ea] at hsi hsu hll;have e1:(0:Int)<=(k:Int):=by omega
  have e2:(k:Int)<(E.length:Int):=by omega
  have hB:=hbel.size;have nb:=aA wr (.cells #[.int .i64 u,.string v] 47);have kb:=aY [.int .i64 u,.string v] wr 47;have ot:=kb.c0;have mO:=kb.c1;have sb:=hsi.below nb;have Mb:=hbel.trans (nb.mono hB);by_cases hq:(v.toList == nm.toList)=true
  ·rw[hq,aN rfl] at hsu;have HS:Hid (gu nm (E.take (k+1))=acc):=hsu;have hq2:(v.toList != nm.toList)=false:=by simpa using hq
   clear ez ea hc hsu HW hpn;go_wp2;go_roundw;case rel=>exact ⟨k+1,a3,GV,by omega,by go_num,by rw[HS.out];exact sb,Mb⟩
   case measure=>simp[intOf];omega
  have hq':(v.toList == nm.toList)=false:=by simpa using hq
  rw[hq',aM (by decide)] at hsu;have HS:Hid (gu nm (E.take (k+1))=acc ++ [(u,v)]):=hsu;have hq2:(v.toList != nm.toList)=true:=by simpa using hq
  have hadd:Hid (∀ W H,W.heap.size=H->ng w1.heap.size a3 acc.length GV acc W->Calls prog 169 #[.pointer (some ⟨w1.heap.size,0,none⟩),.slice (some ⟨H,0,none⟩) 1 1] (W.alloc (.cells #[.int .i64 u,.string v] 47)) fun e w'=>e=.returned (.tuple #[])/\∃ a' cap',ng w1.heap.size a' (acc.length+1) cap' (acc ++ [(u,v)]) w'/\Below w1.heap.size W w'):=fun W H hH hW=>hH ▸ (agy (some ⟨W.heap.size,0,none⟩) 1 [(u,v)] _ (hW.below (aA _ _)) (KK W u v 47) (by simp only[fv,gv];omega)).mono fun _ _ ⟨he,a',c',h1,h2⟩=>⟨he,a',c',h1,((aA W _).mono (by have:=hW.lt;omega)).trans h2⟩;clear ez ea hc hsu HW hpn;go_wp2_with (go_at_call 169;refine (hadd.out _ (wr.heap.size+1) (by simp) sb).mono ?_;rintro e w4 ⟨rfl,a4,c4,s4,b4⟩);go_roundw;case rel=>exact ⟨k+1,a4,c4,by omega,by go_num,by rw[HS.out,de];exact s4,Mb.trans b4⟩
  case measure=>simp[intOf];omega
 obtain rfl:k=E.length:=by omega
 rw[nC] at hsi;obtain ⟨rE,xE,ME⟩:=HW.out _ hbel;have z0:=hsi.aF.c0;have c0:=xE.c0;have c1':=xE.c1;have c2:=xE.c2;have c3:=xE.c3;have c4:=xE.c4;have c5:=xE.c5;have c6:=xE.c6;have c7:=xE.c7;have LE:=HL.out _ ME;have rl:=hsi.buf.own.row;have rf:=hsi.buf.fits;have nB:=ME.alloc ME.size (.cells #[] 204);have HN:Hid ((ok && !(decide ((gu nm E).length=E.length)))=false->∀ a c w',Below w.heap.size w w'->ky (rB d mem nm ok E) (rC d mem nm ok E) w (.returned (.tuple #[.slice a 0 c,.bool false])) w'):=fun h a c w' hb=>by obtain ⟨r1,r2⟩:=ahr (d:=d) (mem:=mem) (nm:=nm) (ok:=ok) (E:=E) h;rw[r1,r2];exact vH hb
 have HY:Hid (ok=true->¬ (gu nm E).length=E.length->∀ e w',ky (lE d mem (gu nm E)) (nf d mem (gu nm E)) w e w'->ky (rB d mem nm ok E) (rC d mem nm ok E) w e w'):=fun h1 h2 e w' h=>by obtain ⟨r1,r2⟩:=ahs (d:=d) (mem:=mem) (nm:=nm) h2;rw[h1,r1,r2];exact h
 obtain ⟨Lf,tD⟩:∃ Lf,gu nm E=Lf:=⟨_,rfl⟩;rw[tD] at hpn HN HY rl rf z0;obtain ⟨nL,Yx⟩:∃ nL,Lf.length=nL:=⟨_,rfl⟩;obtain ⟨nE,Xp⟩:∃ nE,E.length=nE:=⟨_,rfl⟩;rw[Yx] at hpn HN HY rf z0;rw[Xp] at HN HY ⊢;clear HW tD Yx Xp hk hlt hEl rE hsi;cases ok with
 | false=>
  have yC:=HN.out rfl;clear HN HY;go_wp2;go_ret2;exact yC _ _ _ nB
 | true=>
  by_cases hq:nL=nE
  ·have yC:=HN.out (by simp[hq]);subst hq;clear HN HY;go_wp2;go_ret2;exact yC _ _ _ nB
  ·have yH:=HY.out rfl hq;have hq2:¬ (nL:Int)=(nE:Int):=by omega
   clear HN HY;go_wp2_with (go_at_call 166;refine (hpn.out _ _ _ LE rl rf).mono ?_;rintro e w5 ⟨a5,c5',rfl,o5,q5,b5⟩;have l5:=ME.trans (b5.mono ME.size));go_ret2;exact yH _ _ ⟨a5,c5',rfl,o5.mono ME.size,q5,l5⟩
theorem ahu (cl:Int) (w:World) (h0:0<=cl) (h8:cl<=8):Calls prog 149 #[aa cl] w (el (.bool true) w):=by go_enter func149,ntmps149;go_wp2;go_ret;exact ⟨rfl,rfl⟩
structure Gq (m du:ByteArray) (ck cl ino:Int):Prop where
 ok:gF (m,du)
 s:cq m=true
 l:cI m ino=true
 k:bO m ino=2
 o:cB m ino=cl\/cB m ino=9
 c0:0<=ck
 c1:ck<=999999
 p:eE (bV m ino)=true
 p6:(bV m ino).length<=6
 u:(cj m).length<=1000
 cl0:0<=cl
 cl8:cl<=8
theorem ahv (m du:ByteArray) (ck cl ino:Int) (bc bt bi:Nat) (v0 v1 v2 v3:Value) (w:World) (h:Gq m du ck cl ino) (hc:ad w bc 0 (aa cl)) (ht:ad w bt 0 (aa 9)) (hi:ad w bi 0 (aa ino)) (lc:bc<w.heap.size) (lt:bt<w.heap.size) (li:bi<w.heap.size) (hg0:ad w 0 0 v0) (hg1:ad w 1 0 v1) (hg2:ad w 2 0 v2) (hg3:ad w 3 0 v3) (hgl:5<w.heap.size):Ae w ⟨m,du,[],ck⟩ (lV m du ck cl ino 9) 147 #[ao bc 0,ao bt 0,ao bi 0]:=by
 intro W P a' c' hP hb hO h1 h2 h0 hw;obtain ⟨hE,hP'⟩:=h0 rfl;have HC:Hid (∀ V,ah W V->(ad V bc 0 (aa cl)/\ad V bt 0 (aa 9)/\ad V 0 0 v0)/\ad V bi 0 (aa ino)):=fun V hV=>by have hx:ah w V:=hw.trans (hV.mono hw.size);exact ⟨⟨(hx.cell (p:=⟨bc,0,none⟩) lc).trans hc,(hx.cell (p:=⟨bt,0,none⟩) lt).trans ht,(hx.cell (p:=⟨0,0,none⟩) (by show 0<w.heap.size;omega)).trans hg0⟩,(hx.cell (p:=⟨bi,0,none⟩) li).trans hi⟩
 have HL:Hid (∀ V,ah W V->Calls prog 150 #[ao P 0,aa cl,aa ino,aa 9] V fun e w'=>e=.returned (.tuple #[])/\(∃ a2 c2,az P (ry (lV m du ck cl ino 9) a2 c2) w'/\nY (w.heap.size+3) P a2 (lV m du ck cl ino 9).ds w')/\Below (w.heap.size+3) V w'):=fun V hV=>by have hx:ah w V:=hw.trans (hV.mono hw.size);exact afV m du ck cl ino 9 P (w.heap.size+3) a' c' v1 v2 v3 V h.ok (hb.below hV) (hE.below hV) hP' hP h.s h.l h.k h.o h.c0 h.c1 (by omega) (by omega) h.p h.p6 h.u ((hx.cell (p:=⟨1,0,none⟩) (by show 1<w.heap.size;omega)).trans hg1) ((hx.cell (p:=⟨2,0,none⟩) (by show 2<w.heap.size;omega)).trans hg2) ((hx.cell (p:=⟨3,0,none⟩) (by show 3<w.heap.size;omega)).trans hg3) (by omega)
 have hlt:=hb.lt;have hK:=ahu cl W.drew h.cl0 h.cl8;generalize lV m du ck cl ino 9=R at HL ⊢;have d0:ah W W.drew:=(aQ _ _).drew;obtain ⟨s0,i0⟩:=HC.out _ d0;obtain ⟨⟨j1,j2,j3⟩,-⟩:=HC.out _ d0;clear hO hb hE hc ht hi hg0 hg1 hg2 hg3;go_enter func147,ntmps147;go_wp2;refine fX (S:=fun W=>ad W bc 0 (aa cl)/\ad W bt 0 (aa 9)/\ad W 0 0 v0) (by kernel_rfl) ?_;refine aS 0 (aa cl) s0 ?_;refine aS 10 v0 s0 ?_;refine gQ (i:=1) (by kernel_rfl) rfl (by rfl) (.tmp 6) _ rfl (aa cl) (by rfl) (bo func149 (by kernel_rfl) rfl) (hK.mono ?_);rintro e w1 ⟨rfl,hw1⟩;subst w1;refine ⟨_,rfl,s0,?_⟩;simp only[ar,Act.put,Nat.reduceAdd];refine aT 2 (.bool true) s0 ?_;refine aS 3 (aa 9) s0 ?_;refine aS 4 (.bool true) s0 ?_;refine aS 5 (.bool true) s0 ?_;refine aT 6 (.bool true) s0 ?_;refine aS 7 (aa 9) s0 ?_;refine aS 8 (.bool true) s0 ?_;refine aS 9 (.bool true) s0 ?_;refine lg (i:=11) (by kernel_rfl) rfl (by rfl) (.tmp 15) (.tmp 16) _ rfl (.bool true) v0 (by rfl) (by rfl) (bo func148 (by kernel_rfl) rfl) ((vD v0 W.drew).mono ?_);rintro e w1 ⟨rfl,hw1⟩;subst w1;refine ⟨_,rfl,s0,?_⟩;simp only[ar,Act.put,Nat.reduceAdd];refine ek (by kernel_rfl) ?_ _;have hx:=HL.out _ d0;have hWs:w.heap.size+3<=W.heap.size:=by omega
 go_wp2_with (go_at_call 150;refine hx.mono ?_;rintro e w2 ⟨rfl,h3,b3⟩);go_ret;exact ⟨rfl,h3,(d0.mono hWs).trans b3⟩
theorem ahw (m du:ByteArray) (ck cl ino:Int) (a:Option Addr) (c:Nat) (s0:Nat->aI) (v0 v1 v2 v3:Value) (w:World) (hz:ks ⟨m,du,[],ck⟩) (hok:fj ⟨m,du,[],ck⟩=true) (hR:cN w a [] s0) (h:Gq m du ck cl ino) (hg0:ad w 0 0 v0) (hg1:ad w 1 0 v1) (hg2:ad w 2 0 v2) (hg3:ad w 3 0 v3) (hgl:5<w.heap.size):Calls prog 104 #[bP ⟨m,du,[],ck⟩ a c,aa cl,aa ino,aa 9] w (jy (lV m du ck cl ino 9) 0 w):=by
 obtain ⟨k,hk⟩:∃ k:bz,(⟨m,du,[],ck⟩:bz)=k:=⟨_,rfl⟩;obtain ⟨W0,hW0⟩:∃ W0,((((w.alloc (iC k a c)).alloc (.cells #[aa cl] 3)).alloc (.cells #[aa ino] 3)).alloc (.cells #[aa 9] 3)).alloc iB=W0:=⟨_,rfl⟩;have l0:ah w W0:=by rw[<- hW0];exact (((((aQ _ _).alloc (av _) _).alloc (by simp) _).alloc (by simp;omega) _).alloc (by simp;omega) _).alloc (by simp;omega) _
 have z0:W0.heap.size=w.heap.size+5:=by rw[<- hW0];simp
 have k0:az w.heap.size (iZ k a c) W0:=by rw[<- hW0];exact ((((aY (iZ k a c) w 28).alloc _).alloc _).alloc _).alloc _
 have k1:az (w.heap.size+1) [aa cl] W0:=by rw[<- hW0];exact ((((dR [aa cl] _ 3 (by simp))).alloc _).alloc _).alloc _
 have k2:az (w.heap.size+1+1) [aa ino] W0:=by rw[<- hW0];exact ((dR [aa ino] _ 3 (by simp)).alloc _).alloc _
 have k3:az (w.heap.size+1+1+1) [aa 9] W0:=by rw[<- hW0];exact (dR [aa 9] _ 3 (by simp)).alloc _
 have k4:az (w.heap.size+1+1+1+1) ij W0:=by rw[<- hW0];exact dR ij _ 28 (by simp)
 have hG:∀ (g:Nat) (v:Value),g<=5->ad w g 0 v->ad W0 g 0 v:=fun g v hg hv=>(l0.cell (p:=⟨g,0,none⟩) (by show g<w.heap.size;omega)).trans hv;have ha:=F7 ⟨m,du,[],ck⟩ (lV m du ck cl ino 9) a c s0 147 #[ao (w.heap.size+1) 0,ao (w.heap.size+1+1+1) 0,ao (w.heap.size+1+1) 0] W0 hz hok (hR.below l0) (bo func147 (by kernel_rfl) rfl) (ahv m du ck cl ino (w.heap.size+1) (w.heap.size+1+1+1) (w.heap.size+1+1) v0 v1 v2 v3 W0 h k1.c0 k3.c0 k2.c0 (by omega) (by omega) (by omega) (hG _ _ (by omega) hg0) (hG _ _ (by omega) hg1) (hG _ _ (by omega) hg2) (hG _ _ (by omega) hg3) (by omega));rw[hk] at ha ⊢;have c0:=k0.c0;have c1:=k0.c1;have c2:=k0.c2;have c3:=k0.c3;have hm0:=ub;generalize lV m du ck cl ino 9=R at ha ⊢;clear hR hok hk k0 k1 k2 k3 h hz hG;go_enter func104,ntmps104;go_wp2_with (go_at_call 146;refine ha.mono ?_;rintro e w1 ⟨a2,c2',rfl,hl,b1⟩;have y4:=k4.below b1;have y0:=y4.c0;have y1:=y4.c1;have y2:=y4.c2;have y3:=y4.c3;have g0:=y4.f0;have g1:=y4.f1;have g2:=y4.f2;have g3:=y4.f3);have q:=y4.dQ (.string R.mem) (.string R.aL) (.slice a2 R.ds.length c2') (aa R.ck);have v0:=q.c0;have v1:=q.c1;have v2:=q.c2;have v3:=q.c3;have l1:=l0.trans (b1.mono l0.size);refine bF (v:=.tuple #[bP R a2 c2',aa 0]) (by simp[results,results104,go_sem,v0,v1,v2,v3]) rfl ⟨a2,c2',rfl,((((hl.set (by omega) _ _).set (by omega) _ _).set (by omega) _ _).set (by omega) _ _).mono (by omega),?_⟩;exact (((l1.setCell (p:=⟨w.heap.size+1+1+1+1,0,none⟩) (by show w.heap.size<=w.heap.size+1+1+1+1;omega) _).setCell (p:=⟨w.heap.size+1+1+1+1,1,none⟩) (by show w.heap.size<=w.heap.size+1+1+1+1;omega) _).setCell (p:=⟨w.heap.size+1+1+1+1,2,none⟩) (by show w.heap.size<=w.heap.size+1+1+1+1;omega) _).setCell (p:=⟨w.heap.size+1+1+1+1,3,none⟩) (by show w.heap.size<=w.heap.size+1+1+1+1;omega) _
theorem ahx {P:Program} {md:Region.Mode} {ops:Array Oper} {Q:Exit->Act->World->Prop} {S:World->Prop} {n:Nat} {a:Act} {w:World} {i f:Nat} {o:Oper} {listed:Array Bool} {fuel:Nat} (hr:Region.ready md ops listed=[i]) (ho:ops[i]? = some o) (hw:Region.wanted o (yielded ops a.tmps)=true) (x y:Operand) (ts:Array TypeId) (hop:o.op=.call { callee:=.value (.func f),args:=#[x,y],argTypes:=ts }) (v u1:Value) (hx0:a.eval x=v) (hx1:a.eval y=u1) (eg:∀ args w,(callFunc f args).run P w=.ok (.enter f args) w) (hc:Calls P f #[v,u1] w fun e w'=>∃ u,e=.returned u/\S w'/\ik P md ops Q S n fuel (listed.setIfInBounds i true) (a.put o.dst u) w'):ik P md ops Q S n (fuel+1) listed a w:=by
 refine zP hr (by simp) ?_;intro j hj;obtain rfl:j=i:=by simpa using hj
 unfold wpOp;rw[ho];refine iU hw (.inl ?_);have he:(execOp a.eval o).run P w=.ok (.enter f #[v,u1]) w:=by subst hx0 hx1;simp[execOp,hop,resolve,go_sem,invoke,eg]
 unfold Oper.wp;rw[he];refine kZ hc ?_;rintro e w' ⟨u,rfl,hS,h⟩;exact ⟨fun _=>hS,h⟩
theorem UC {P B:Nat} {x0 x1 x4 x5:Value} {m b:ByteArray} {d:ai} {s:aI} {W:World} (h:az P [x0,x1,.string m,.string b,x4,x5] W) (l:fw B d s W):ad W P 2 (.string m)/\ad W P 3 (.string b)/\ad W B 0 (aa d.ino)/\ad W B 1 (aa d.cl)/\ad W B 2 (aa d.un)/\ad W B 3 (.string d.rc)/\ad W B 4 (.slice s.a1 d.pg.length s.c1)/\ad W B 5 (.string d.aU)/\ad W B 6 (.slice s.a2 d.po.length s.c2)/\ad W B 7 (.slice s.a3 d.fr.length s.c3):=⟨h.cell 2 (by simp),h.cell 3 (by simp),l.c0,l.c1,l.c2,l.c3,l.c4,l.c5,l.c6,l.c7⟩
structure xU (w:World) (P B:Nat) (x4 x5:Value) (aG aC:Option Addr) (Z Y:List Int) (d:ai) (s:aI) (p:ByteArray × ByteArray) (W:World):Prop where
 p:az P [.int .i32 1,.int .u32 0,.string p.1,.string p.2,x4,x5] W
 g:aR (B+1) W aG Z
 y:aR (B+1) W aC Y
 l:fw B d s W
 t:cM P (P+1) w W
theorem xU.step {w W V:World} {P B:Nat} {x4 x5:Value} {aG aC:Option Addr} {Z Y:List Int} {d:ai} {s:aI} {p q:ByteArray × ByteArray} (h:xU w P B x4 x5 aG aC Z Y d s p W) (H0:P<B) (hV:ah W V) (hk:az P [.int .i32 1,.int .u32 0,.string q.1,.string q.2,x4,x5] ((V.setCell ⟨P,2,none⟩ (.string q.1)).setCell ⟨P,3,none⟩ (.string q.2))):xU w P B x4 x5 aG aC Z Y d s q ((V.setCell ⟨P,2,none⟩ (.string q.1)).setCell ⟨P,3,none⟩ (.string q.2)):=
 ⟨hk,((h.g.below hV).set (by omega) 2 _).set (by omega) 3 _,((h.y.below hV).set (by omega) 2 _).set (by omega) 3 _,⟨((h.l.below hV).b.aP (by omega) 2 _).aP (by omega) 3 _⟩,
  ((h.t.then hV).set (p:=⟨P,2,none⟩) (av _) (cm _) _).set (p:=⟨P,3,none⟩) (av _) (cm _) _⟩
theorem ahy:(bG 16).size=16:=by decide +kernel
theorem ahz (k:bz) (P:Nat) (a:Option Addr) (c:Nat) (d:ai) (s:aI) (w:World) (hok:gF (k.mem,k.aL)) (hP:az P (ry k a c) w) (jA:iV d s) (hpo:d.po.length<=1048576) (hfr:d.fr.length<=1048576) (hL:∀ W,cM P (P+1) w W->cJ W d s) (hgs:(eJ k.mem d).length<=1048576) (hcs:(gD k.mem d).length<=1048576):Calls prog 218 #[ao P 0,bL d s] w fun e w'=>e=.returned (.tuple #[])/\az P [.int .i32 1,.int .u32 0,.string (na k d true).1,.string (na k d true).2,.slice a k.ds.length c,aa k.ck] w'/\cM P (P+1) w w':=by
 have n0:=aA w (ri d s);have lb:=jP d s w 31;have H0:=hP.lt;have hm1:k.mem.size=768:=hok.1;have c2:=(xK (hP.below n0)).1;have YC:Hid (∀ W,cM P (P+1) w W->cJ W d s):=hL;have HC:Hid (∀ W,ah w W->_):=fun W hb=>adW k.mem d s W (by omega) jA hpo hfr (hL W (cM.Az hb));have HG:Hid (∀ W,ah w W->_):=fun W hb=>S0 k.mem d s W (by omega) jA hpo hfr (hL W (cM.Az hb));have HX:Hid (∀ W,ah w W->az P [.int .i32 1,.int .u32 0,.string k.mem,.string k.aL,.slice a k.ds.length c,aa k.ck] W):=fun W hb=>hP.below hb;have HE:Hid (na k d true=((jV d.fr (gD k.mem d) (cQ (eJ k.mem d) (k.mem,k.aL) (eJ k.mem d).length) d.fr.length).1,jg (jV d.fr (gD k.mem d) (cQ (eJ k.mem d) (k.mem,k.aL) (eJ k.mem d).length) d.fr.length).1 (jV d.fr (gD k.mem d) (cQ (eJ k.mem d) (k.mem,k.aL) (eJ k.mem d).length) d.fr.length).2 (bD d) (bD d).length)):=by rw[afG];rfl
 have Xe:Hid (∀ m b W,gF (m,b)->cM P (P+1) w W->_):=fun m b W h1 h2=>SL m b d s W h1.1 h1.2 jA hpo hfr (hL W h2);have HW:Hid (∀ W (p:ByteArray × ByteArray) z x4 x5,gF p->az P [.int .i32 1,.int .u32 0,.string p.1,.string p.2,x4,x5] W->Calls prog 211 #[ao P 0,aa (aZ z),aa 16] W fun e w'=>e=.returned (.tuple #[])/\az P [.int .i32 1,.int .u32 0,.string (mY p z).1,.string (mY p z).2,x4,x5] w'/\∃ V,ah W V/\w'=(V.setCell ⟨P,2,none⟩ (.string (mY p z).1)).setCell ⟨P,3,none⟩ (.string (mY p z).2)):=fun W p z x4 x5 hp hk=>Sj P _ _ x4 x5 p.1 p.2 (aZ z) 16 W hk (by have:=hp.1;omega) (by have:=hp.2;omega) (by rw[ahy];omega) (by rw[CL];have:=hp.1;omega);have NT:Hid (∀ j,gF (cQ (eJ k.mem d) (k.mem,k.aL) j)):=fun j=>CM hok _ j;have Dy:Hid (∀ j,gF (jV d.fr (gD k.mem d) (cQ (eJ k.mem d) (k.mem,k.aL) (eJ k.mem d).length) j)):=fun j=>Kl (CM hok _ _) _ _ j;generalize na k d true=R at HE ⊢;generalize eJ k.mem d=Z at HG HE NT Dy hgs;generalize gD k.mem d=Y at HC HE Dy hcs;have Xa:Hid (∀ W a' c' z,aR (w.heap.size+1) W a' Y->_):=fun W a' c' z h=>pR a' c' Y z W (by omega) h.row;have e0:(w.alloc (ri d s)).heap.size=w.heap.size+1:=by simp
 clear hL hP jA;have y0:=lb.c0;have y1:=lb.c1;have y2:=lb.c2;have y3:=lb.c3;have y4:=lb.c4;have y5:=lb.c5;have y6:=lb.c6;have y7:=lb.c7;go_enter func218,ntmps218;go_wp2_with (first
  | (go_at_call 246;refine (HC.out _ n0).mono ?_;rintro e w1' ⟨aC,cC,rfl,hcC,oC,b1⟩;have l1:=n0.trans (b1.mono n0.size);have fW:=lb.below b1;clear y0 y1 y2 y3 y4 y5 y6 y7;have y0:=fW.c0;have y1:=fW.c1;have y2:=fW.c2;have y3:=fW.c3;have y4:=fW.c4;have y5:=fW.c5;have y6:=fW.c6;have y7:=fW.c7)
  | (go_at_call 245;refine (HG.out _ l1).mono ?_;rintro e w2 ⟨aG,cG,rfl,hcG,oG,b2⟩;have l2:=l1.trans (b2.mono l1.size);clear y0 y1 y2 y3 y4 y5 y6 y7))
 have st0:xU w P w.heap.size (.slice a k.ds.length c) (aa k.ck) aG aC Z Y d s (cQ Z (k.mem,k.aL) 0) w2:=by have h1:=b1.size;rw[e0] at oC h1;exact ⟨HX.out _ l2,oG.imp id fun ⟨g,e,h1,h2⟩=>⟨g,e,by omega,h2⟩,oC.below b2,fW.below b2,cM.Az l2⟩
 clear oC oG lb fW l1 l2 b1 b2 n0 c2 HC HG HX e0;go_loopw [23] (fun i w'=>∃ j:Nat,j<=Z.length/\i=aa j/\xU w P w.heap.size (.slice a k.ds.length c) (aa k.ck) aG aC Z Y d s (cQ Z (k.mem,k.aL) j) w') (fun i _=>Z.length-(intOf i).toNat);case atStart=>exact ⟨0,bh _,rfl,st0⟩
 case round=>
 obtain ⟨j,hj,rfl,st⟩:=hrel;clear st0;by_cases hlt:j<Z.length
 ·obtain ⟨b,off,hab,_,hc⟩:=st.g.row.get hlt;have x1:=hc j hlt;have hw:cQ Z (k.mem,k.aL) (j+1)=mY (cQ Z (k.mem,k.aL) j) (Z.getD j 0):=rfl;have ho:=NT.out j;obtain ⟨p,ep⟩:∃ p,cQ Z (k.mem,k.aL) j=p:=⟨_,rfl⟩;obtain ⟨z,ez⟩:∃ z,Z.getD j 0=z:=⟨_,rfl⟩;rw[ez] at x1 hw;rw[ep] at st hw ho;have Dw:Hid (cQ Z (k.mem,k.aL) (j+1)=mY p z):=hw;have hwp:=HW.out wr p z _ _ ho st.p;have e1:(0:Int)<=(j:Int):=by omega
  have e2:(j:Int)<(Z.length:Int):=by omega
  rw[hab];clear ep ez hw hc ho;go_wp2_with (first
   | (go_at_call 17;refine (gP z _).mono ?_;rintro e w4 ⟨rfl,hw4⟩;subst w4)
   | (go_at_call 211;refine hwp.mono ?_;rintro e w5 ⟨rfl,k5,V,hV,tu⟩;subst tu;have Mx:=st.step H0 hV k5))
  go_roundw;case rel=>exact ⟨j+1,by omega,by go_num,by rw[Dw.out,<- hab];exact Mx⟩
  case measure=>simp[intOf];omega
 obtain rfl:j=Z.length:=by omega
 have y7:=st.l.c7;have st1:xU w P w.heap.size (.slice a k.ds.length c) (aa k.ck) aG aC Z Y d s (jV d.fr Y (cQ Z (k.mem,k.aL) Z.length) 0) wr:=st;obtain ⟨p0,Wq⟩:∃ p0,cQ Z (k.mem,k.aL) Z.length=p0:=⟨_,rfl⟩;rw[Wq] at st1 HE Dy;clear st Wq NT;go_wp2;go_loopw [35] (fun i w'=>∃ j:Nat,j<=d.fr.length/\i=aa j/\xU w P w.heap.size (.slice a k.ds.length c) (aa k.ck) aG aC Z Y d s (jV d.fr Y p0 j) w') (fun i _=>d.fr.length-(intOf i).toNat);case atStart=>exact ⟨0,bh _,rfl,st1⟩
 case round=>
 obtain ⟨j,hj,rfl,st⟩:=hrel;clear st1 y7;by_cases hlt:j<d.fr.length
 ·obtain ⟨b,off,hab,_,hc⟩:=(YC.out _ st.t).r3.get hlt;have x1:=hc j hlt;have hw:jV d.fr Y p0 (j+1)=if bC Y (d.fr.getD j 0)=true then jV d.fr Y p0 j else mY (jV d.fr Y p0 j) (d.fr.getD j 0):=rfl
  have ho:=Dy.out j;obtain ⟨p,ep⟩:∃ p,jV d.fr Y p0 j=p:=⟨_,rfl⟩;obtain ⟨z,ez⟩:∃ z,d.fr.getD j 0=z:=⟨_,rfl⟩;rw[ez] at x1 hw;rw[ep] at st hw ho;have hwp:=HW.out wr p z _ _ ho st.p;have hin:=Xa.out wr aC cC z st.y;have e1:(0:Int)<=(j:Int):=by omega
  have e2:(j:Int)<(d.fr.length:Int):=by omega
  rw[hab];cases hh:bC Y z with
  | true=>
   rw[hh] at hin hw;have Dw:Hid (jV d.fr Y p0 (j+1)=p):=by rw[hw];rfl
   clear ep ez hw hc ho hh hwp;go_wp2_with (go_at_call 141;refine hin.mono ?_;rintro e w4 ⟨rfl,hw4⟩;subst w4);go_roundw;case rel=>exact ⟨j+1,by omega,by go_num,by rw[Dw.out];exact st⟩
   case measure=>simp[intOf];omega
  | false=>
   rw[hh] at hin hw;have Dw:Hid (jV d.fr Y p0 (j+1)=mY p z):=by rw[hw];rfl
   clear ep ez hw hc ho hh;go_wp2_with (first
    | (go_at_call 141;refine hin.mono ?_;rintro e w4 ⟨rfl,hw4⟩;subst w4)
    | (go_at_call 17;refine (gP z _).mono ?_;rintro e w4 ⟨rfl,hw4⟩;subst w4)
    | (go_at_call 211;refine hwp.mono ?_;rintro e w5 ⟨rfl,k5,V,hV,tu⟩;subst tu;have Mx:=st.step H0 hV k5))
   go_roundw;case rel=>exact ⟨j+1,by omega,by go_num,by rw[Dw.out];exact Mx⟩
   case measure=>simp[intOf];omega
 obtain rfl:j=d.fr.length:=by omega
 have ho:=Dy.out d.fr.length;obtain ⟨p,ep⟩:∃ p,jV d.fr Y p0 d.fr.length=p:=⟨_,rfl⟩;rw[ep] at st ho HE;obtain ⟨m,b⟩:=p;have hrl:=Xe.out m b wr.drew ho (st.t.then ((aQ _ _).drew));have Xf:Hid (R=(m,jg m b (bD d) (bD d).length)):=HE.out;generalize jg m b (bD d) (bD d).length=x at hrl Xf;have kd:az P [.int .i32 1,.int .u32 0,.string m,.string b,.slice a k.ds.length c,aa k.ck] wr.drew:=st.p.drew;have ld:fw w.heap.size d s wr.drew:=st.l.below ((aQ _ _).drew);have s0:=UC kd ld;have td:cM P (P+1) w wr.drew:=st.t.then ((aQ _ _).drew);clear ep ho st HE Xa HW YC Xe;go_wp2;refine Cp (n:=11) (S:=fun W=>ad W P 2 (.string m)/\ad W P 3 (.string b)/\ad W w.heap.size 0 (aa d.ino)/\ad W w.heap.size 1 (aa d.cl)/\ad W w.heap.size 2 (aa d.un)/\ad W w.heap.size 3 (.string d.rc)/\ad W w.heap.size 4 (.slice s.a1 d.pg.length s.c1)/\ad W w.heap.size 5 (.string d.aU)/\ad W w.heap.size 6 (.slice s.a2 d.po.length s.c2)/\ad W w.heap.size 7 (.slice s.a3 d.fr.length s.c3)) (by kernel_rfl) ?_;refine mz 0 (ao P 0) s0 ?_;refine mz 1 (ao P 0) s0 ?_;refine jc 2 (ao P 0) s0 ?_;refine jc 3 (ao P 2) s0 ?_;refine jc 4 (ao P 2) s0 ?_;refine jc 5 (.agg #[.string m,.string b]) s0 ?_;refine jc 6 (bL d s) s0 ?_;refine ahx (i:=7) (by kernel_rfl) rfl (by rfl) (.tmp 53) (.tmp 54) _ rfl (.agg #[.string m,.string b]) (bL d s) (by rfl) (by rfl) (bo func100 (by kernel_rfl) rfl) ((hrl).mono ?_);rintro e w9 ⟨rfl,b9⟩;have H8:=kd.below b9;have lb9:=ld.below b9;have s9:=UC H8 lb9;refine ⟨_,rfl,s9,?_⟩;simp only[ar,Act.put,Nat.reduceAdd];refine qi (i:=8) (u:=ao P 0) (w':=w9) (by kernel_rfl) rfl (by rfl) ?_ s9 ?_;·go_simp
 simp only[ar,Act.put,Nat.reduceAdd];refine qi (i:=9) (u:=ao P 2) (w':=w9) (by kernel_rfl) rfl (by rfl) ?_ s9 ?_;·go_simp
 simp only[ar,Act.put,Nat.reduceAdd];refine qi (i:=10) (u:=ao P 2) (w':=w9) (by kernel_rfl) rfl (by rfl) ?_ s9 ?_;·go_simp
 simp only[ar,Act.put,Nat.reduceAdd];have e2:=s9.1;have e3:=s9.2.1;have f2:=H8.f2;have f3:=H8.f3;refine xt (i:=11) (w':=(w9.setCell ⟨P,2,none⟩ (.string m)).setCell ⟨P,3,none⟩ (.string x)) (by kernel_rfl) rfl (by decide) (by rfl) ?_ ?_;·go_simp
 simp only[ar,Act.put,Nat.reduceAdd];refine Co (by kernel_rfl) ?_ _;try go_wp2
 refine mu (v:=.tuple #[]) (by simp[results,results218,go_sem]) rfl ?_;refine ⟨rfl,?_,?_⟩
 ·rw[Xf.out];have q:=(H8.set 2 (.string m)).set 3 (.string x);simpa using q
 exact ((td.then b9).set (p:=⟨P,2,none⟩) (av _) (cm _) _).set (p:=⟨P,3,none⟩) (av _) (cm _) _
theorem UD {lo hi lo' hi':Nat} {a:Option Addr} {ds:List ai} {W W':World} (h:mW lo hi a ds W) (hb:cM lo' hi' W W') (hx:hi<=lo'):mW lo hi a ds W':=h.imp id fun ⟨g,b,ss,L,e,h1,h2,h3⟩=>⟨g,b,ss,L,e,h1,h2,aeV h3 hb (Or.inr (by omega))⟩
theorem ahA {lo P:Nat} {w W:World} (h:cM lo (P+1) w W) (hlo:lo<=P) (j:Nat) (v:Value):cM lo (P+1) w (W.setCell ⟨P,j,none⟩ v):=h.set (p:=⟨P,j,none⟩) hlo (cm _) v
structure K7 (w:World) (k:bz) (P lo g p B:Nat) (c:Nat) (d:ai) (s:aI) (W:World):Prop where
 aF:az P [.int .i32 1,.int .u32 0,.string k.mem,.string k.aL,.slice (some ⟨g,0,none⟩) (k.ds.length-1) c,.int .i64 k.ck] W
 oh:mW lo P (some ⟨g,0,none⟩) (k.ds.eraseIdx p) W
 lb:fw B d s W
 ls:∀ V,cM P (P+1) W V->cJ V d s
 t:cM lo (P+1) w W
theorem ahB {w w4 w5:World} {k:bz} {P lo g p B c:Nat} {b:Nat->Nat} {ss:Nat->aI} {L:List Value} (hp:p<k.ds.length) (hlo:lo<=g) (hbn:b k.ds.length<=P) (Mz:P<w.heap.size) (hB:w.heap.size<=B) (l4:ah w w4) (mN:jT g b k.ds.length (aJ k.ds) ss L w4) (hblk:az P (ry k (some ⟨g,0,none⟩) c) w4) (hlb:fw B (aJ k.ds p) (ss p) w4) (hk:az g (L.take (p*8)++L.drop ((p+1)*8)) w5) (hb:cM g (g+1) w4 w5):K7 w k P lo g p B c (aJ k.ds p) (ss p) (w5.setCell ⟨P,4,none⟩ (aH g (k.ds.length-1) c)):=by
 have hgb:=mN.gb;have hb0:=mN.le (i:=0) (j:=k.ds.length) (bh _) (av _);have Xg:g<P:=by omega
 have h5:=agW mN hp hb hk;have hlen:(k.ds.eraseIdx p).length=k.ds.length-1:=by rw[List.length_eraseIdx,aN hp]
 have hD:(fun j=>if j<p then aJ k.ds j else aJ k.ds (j+1))=aJ (k.ds.eraseIdx p):=by
  funext j
  rw[afH]
 rw[hD,<- hlen] at h5;have hhi:=agX mN hp;have o5:mW lo P (some ⟨g,0,none⟩) (k.ds.eraseIdx p) w5:=Or.inr ⟨g,_,_,_,rfl,hlo,by rw[hlen];omega,h5⟩;have sP:cM P (P+1) w5 (w5.setCell ⟨P,4,none⟩ (aH g (k.ds.length-1) c)):=(cM.refl _ _ _).set (p:=⟨P,4,none⟩) (av _) (cm _) _;have t5:cM lo (P+1) w w5:=(cM.Az l4).trans (hb.mono hlo (by omega));have Nt:=Cq hblk hb (Or.inr (by omega));have hs4:=l4.size;refine ⟨?_,UD o5 sP (av _),⟨(Cq hlb.b hb (Or.inr (by omega))).aP (by omega) 4 _⟩,fun V hV=>?_,ahA t5 (by omega) 4 _⟩
 ·have q:=Nt.set 4 (aH g (k.ds.length-1) c);simpa using q
 obtain ⟨m1,m2,q⟩:=mN.sub p hp;have h1:=mN.le (i:=0) (j:=p) (bh _) (by omega);have h2:=mN.le (i:=p+1) (j:=k.ds.length) (by omega) (av _);exact (((q.mL hb (Or.inr (by omega))).mL sP (Or.inl (by omega))).mL hV (Or.inl (by omega))).lists
theorem ahC (k:bz) (P lo:Nat) (a:Option Addr) (c p:Nat) (cl ino:Int) (w:World) (hok:gF (k.mem,k.aL)) (hn:k.ds.length<=1048576) (ht:k.ds.length+ja k.ds k.ds.length<=1048576) (hP:az P (ry k a c) w) (hO:mW lo P a k.ds w) (hc:k.ds.length<=c) (hcm:c<=maxLen) (v:Value) (hg:ad w 1 0 v) (hgl:1<lo) (hp:p<k.ds.length) (hpl:∀ x,oS cl ino k.ds x->x=(p:Int)) (hgs:(eJ k.mem (aJ k.ds p)).length<=1048576) (hcs:(gD k.mem (aJ k.ds p)).length<=1048576) (si:mZ k (aJ k.ds p)=true):Calls prog 156 #[ao P 0,aa cl,aa ino] w fun e w'=>e=.returned .nilIface/\az P (ry (qj k p) a c) w'/\mW lo P a (qj k p).ds w'/\cM lo (P+1) w w':=by
 obtain ⟨g,b,ss,L,rfl,hlo,hbn,mN⟩:∃ g b ss L,a=some ⟨g,0,none⟩/\lo<=g/\b k.ds.length<=P/\jT g b k.ds.length (aJ k.ds) ss L w:=by
  rcases hO with h | h;·rw[h] at hp;simp at hp
  exact h
 have hgb:=mN.gb;have hb0:=mN.le (i:=0) (j:=k.ds.length) (bh _) (av _);have Mz:=hP.lt;have alQ:lo<=P:=by omega
 have hsmall:∀ j,j<k.ds.length->(aJ k.ds j).pg.length<=1048576/\(aJ k.ds j).po.length<=1048576/\(aJ k.ds j).fr.length<=1048576/\(aJ k.ds j).rc.size<=1048576/\(aJ k.ds j).aU.size<=1048576:=fun j hj=>by have:=QS hj;exact QQ (d:=aJ k.ds j) (by omega)
 have Mq:pY k.ds ss:=fun j hj=>by obtain ⟨z1,z2,z3,z4,z5⟩:=hsmall j hj;exact ⟨⟨by omega,by omega,by omega⟩,z2,z3⟩
 obtain ⟨jA,hpo,hfr⟩:=Mq p hp;have HL:Hid (∀ W,ah w W->jT g b k.ds.length (aJ k.ds) ss L W/\az P (ry k (some ⟨g,0,none⟩) c) W/\ad W 1 0 v):=fun W hb=>⟨mN.below hb,hP.below hb,(hb.cell (p:=⟨1,0,none⟩) (by show 1<w.heap.size;omega)).trans hg⟩;have HN:Hid (∀ W,jT g b k.ds.length (aJ k.ds) ss L W->cN W (some ⟨g,0,none⟩) k.ds ss):=fun W h=>⟨Or.inr ⟨g,0,rfl,h.aF.lt,fun j hj=>by rw[dW];exact Cm h.aF (h.at_ j hj)⟩,fun j hj=>by obtain ⟨m1,m2,q⟩:=h.sub j hj;exact q.lists⟩;have hlp:=Sr (some ⟨g,0,none⟩) c k.ds ss cl ino w hn (HN.out w mN).row;have HPL:Hid (∀ x,oS cl ino k.ds x->x=(p:Int)):=hpl;have htr:(cD k).size=768:=(xu k.ds k.mem k.ds.length).trans hok.1;have HM:Hid (∀ W,ah w W->_):=fun W hb=>afJ k P (some ⟨g,0,none⟩) c ss (aJ k.ds p) (ss p) W hok.1 hn ht Mq (HN.out W (HL.out W hb).1) (HL.out W hb).2.1 jA hpo hfr ((HN.out W (HL.out W hb).1).sub p hp) htr hgs;have HD:Hid (∀ W,az g L W->_):=fun W hk=>agV g k.ds.length c p L W mN.len (agU mN.len mN.at_) hk hp hc (by unfold maxLen at hcm;omega);have MO:Hid (∀ w4 w5 B,ah w w4->w.heap.size<=B->fw B (aJ k.ds p) (ss p) w4->az g (L.take (p*8)++L.drop ((p+1)*8)) w5->cM g (g+1) w4 w5->az P [.int .i32 1,.int .u32 0,.string k.mem,.string k.aL,aH g k.ds.length c,aa k.ck] w5/\K7 w k P lo g p B c (aJ k.ds p) (ss p) (w5.setCell ⟨P,4,none⟩ (aH g (k.ds.length-1) c))):=fun w4 w5 B l4 hB hlb hk hb=>⟨Cq (HL.out w4 l4).2.1 hb (Or.inr (by omega)),ahB hp hlo hbn Mz hB l4 (HL.out w4 l4).1 (HL.out w4 l4).2.1 hlb hk hb⟩;have Hf:Hid (∀ W,jT g b k.ds.length (aJ k.ds) ss L W->kh W g (p*8) (aJ k.ds p) (ss p)/\az g L W):=fun W h=>⟨Cm h.aF (h.at_ p hp),h.aF⟩;have AA:Hid (qj k p=⟨(na k (aJ k.ds p) (mZ k (aJ k.ds p))).1,(na k (aJ k.ds p) (mZ k (aJ k.ds p))).2,k.ds.eraseIdx p,k.ck⟩):=rfl;have hlen:(k.ds.eraseIdx p).length=k.ds.length-1:=by rw[List.length_eraseIdx,aN hp]
 have Hv:Hid ((k.ds.eraseIdx p).length=k.ds.length-1):=hlen;have HT:Hid (∀ W B,K7 w k P lo g p B c (aJ k.ds p) (ss p) W->Calls prog 218 #[ao P 0,bL (aJ k.ds p) (ss p)] W fun e w'=>e=.returned (.tuple #[])/\az P [.int .i32 1,.int .u32 0,.string (na k (aJ k.ds p) true).1,.string (na k (aJ k.ds p) true).2,aH g (k.ds.length-1) c,aa k.ck] w'/\cM P (P+1) W w'):=fun W B h=>by have hb:=h.aF;have:=ahz ⟨k.mem,k.aL,k.ds.eraseIdx p,k.ck⟩ P (some ⟨g,0,none⟩) c (aJ k.ds p) (ss p) W hok (by show az P [_,_,_,_,.slice _ (k.ds.eraseIdx p).length _,_] W;rw[hlen];exact hb) jA hpo hfr h.ls hgs hcs;simp only[hlen] at this;exact this
 have c4:=(xK hP).2.2.1;have x1:(0:Int)<=(p:Int):=by omega
 have x2:(p:Int)<(k.ds.length:Int):=by omega
 clear hP hg mN hO hpl Mq hsmall jA hpo hfr hlen htr hok;obtain ⟨d,hd⟩:∃ d,aJ k.ds p=d:=⟨_,rfl⟩;obtain ⟨s,hs⟩:∃ s,ss p=s:=⟨_,rfl⟩;rw[hd] at HM MO Hf AA HT si;rw[hs] at HM MO Hf HT;generalize qj k p=R at AA ⊢;clear hd hs hgs hcs;rw[si] at HM AA;clear si;generalize na k d true=Y at AA HT;go_enter func156,ntmps156;go_wp2_with (first
  | (go_at_call 56;refine hlp.mono ?_;rintro e w1 ⟨⟨x',rfl,hx⟩,b1⟩;obtain rfl:x'=(p:Int):=HPL.out x' hx;obtain ⟨A1,k1,gN⟩:=HL.out _ b1;have d4:=(xK k1).2.2.1;obtain ⟨⟨z0,z1,z2,z3,z4,z5,z6,z7⟩,G1⟩:=Hf.out _ A1;have nb:=aA w1 (ri d s);have l3:=b1.trans (nb.mono b1.size);have iO:=jP d s w1 31;have y0:=iO.c0;have y1:=iO.c1;have y2:=iO.c2;have y3:=iO.c3;have y4:=iO.c4;have y5:=iO.c5;have y6:=iO.c6;have y7:=iO.c7)
  | (go_at_call 148;refine (vD v _).mono ?_;rintro e w2 ⟨rfl,hw2⟩;subst w2)
  | (go_at_call 216;refine (HM.out _ l3).mono ?_;rintro e w4 ⟨rfl,b4⟩;have l4:=l3.trans (b4.mono l3.size);have lb4:=iO.below b4;clear y0 y1 y2 y3 y4 y5 y6 y7;obtain ⟨A4,k4,E4⟩:=HL.out _ l4;have c4':=(xK k4).2.2.1;have G4:=(Hf.out _ A4).2)
  | (go_at_call 217;refine (HD.out _ G4).mono ?_;rintro e w5 ⟨rfl,k5,b5⟩;obtain ⟨WR,M6⟩:=MO.out w4 w5 w1.heap.size l4 b1.size lb4 k5 b5;have u4:=(xK (k:=k) (a:=some ⟨g,0,none⟩) (c:=c) WR).2.2.1;have v4:=WR.free 4 (by simp);have y0:=M6.lb.c0;have y1:=M6.lb.c1;have y2:=M6.lb.c2;have y3:=M6.lb.c3;have y4:=M6.lb.c4;have y5:=M6.lb.c5;have y6:=M6.lb.c6;have y7:=M6.lb.c7)
  | (go_at_call 218;refine (HT.out _ _ M6).mono ?_;rintro e w7 ⟨rfl,k7,t7⟩;have o7:=UD M6.oh t7 (av _);have T7:=M6.t.trans (t7.mono alQ (av _))))
 go_ret;refine ⟨rfl,?_,?_,T7⟩
 ·rw[AA.out];show az P [_,_,_,_,.slice _ (k.ds.eraseIdx p).length _,_] _
  rw[Hv.out];exact k7
 rw[AA.out];exact o7
theorem ahD (k:bz) (p:Nat) (cl ino:Int) (bc bi:Nat) (v:Value) (w:World) (hz:ks k) (hok:gF (k.mem,k.aL)) (ht:k.ds.length+ja k.ds k.ds.length<=1048576) (hp:p<k.ds.length) (hpl:∀ x,oS cl ino k.ds x->x=(p:Int)) (hgs:(eJ k.mem (aJ k.ds p)).length<=1048576) (hcs:(gD k.mem (aJ k.ds p)).length<=1048576) (si:mZ k (aJ k.ds p)=true) (hc:ad w bc 0 (aa cl)) (hi:ad w bi 0 (aa ino)) (lc:bc<w.heap.size) (li:bi<w.heap.size) (hg:ad w 1 0 v) (hgl:1<w.heap.size):Ae w k (qj k p) 155 #[ao bc 0,ao bi 0]:=by intro W P a' c' hP hb hO h1 h2 _ hw;have g1:ad W bc 0 (aa cl):=(hw.cell (p:=⟨bc,0,none⟩) lc).trans hc;have g2:ad W bi 0 (aa ino):=(hw.cell (p:=⟨bi,0,none⟩) li).trans hi;have g4:ad W 1 0 v:=(hw.cell (p:=⟨1,0,none⟩) hgl).trans hg;have hx:=ahC k P (w.heap.size+3) a' c' p cl ino W hok (by have:=hz.t;omega) ht hb hO h1 h2 v g4 (by omega) hp hpl hgs hcs si;have hlt:=hb.lt;clear hO hb g4 hpl si hok;go_enter func155,ntmps155;go_wp2_with (go_at_call 156;refine hx.mono ?_;rintro e w1 ⟨rfl,k1,o1,t1⟩);go_ret;exact ⟨rfl,⟨a',c',k1,CI o1⟩,t1.below (av _) (by omega)⟩
theorem ahE (k:bz) (a:Option Addr) (c:Nat) (s0:Nat->aI) (p:Nat) (cl ino:Int) (v:Value) (w:World) (hz:ks k) (hok:fj k=true) (hR:cN w a k.ds s0) (GN:gF (k.mem,k.aL)) (ht:k.ds.length+ja k.ds k.ds.length<=1048576) (hp:p<k.ds.length) (hpl:∀ x,oS cl ino k.ds x->x=(p:Int)) (hgs:(eJ k.mem (aJ k.ds p)).length<=1048576) (hcs:(gD k.mem (aJ k.ds p)).length<=1048576) (si:mZ k (aJ k.ds p)=true) (hg:ad w 1 0 v) (hgl:1<w.heap.size):Calls prog 107 #[bP k a c,aa cl,aa ino] w (jy (qj k p) 0 w):=by
 obtain ⟨W0,hW0⟩:∃ W0,(((w.alloc (iC k a c)).alloc (.cells #[aa cl] 3)).alloc (.cells #[aa ino] 3)).alloc iB=W0:=⟨_,rfl⟩;have l0:ah w W0:=by rw[<- hW0];exact ((((aQ _ _).alloc (av _) _).alloc (by simp) _).alloc (by simp;omega) _).alloc (by simp;omega) _
 have z0:W0.heap.size=w.heap.size+4:=by rw[<- hW0];simp
 have k0:az w.heap.size (iZ k a c) W0:=by rw[<- hW0];exact (((aY (iZ k a c) w 28).alloc _).alloc _).alloc _
 have k1:az (w.heap.size+1) [aa cl] W0:=by rw[<- hW0];exact ((dR [aa cl] _ 3 (by simp)).alloc _).alloc _
 have k2:az (w.heap.size+1+1) [aa ino] W0:=by rw[<- hW0];exact (dR [aa ino] _ 3 (by simp)).alloc _
 have k4:az (w.heap.size+1+1+1) ij W0:=by rw[<- hW0];exact dR ij _ 28 (by simp)
 have ha:=F7 k (qj k p) a c s0 155 #[ao (w.heap.size+1) 0,ao (w.heap.size+1+1) 0] W0 hz hok (hR.below l0) (bo func155 (by kernel_rfl) rfl) (ahD k p cl ino (w.heap.size+1) (w.heap.size+1+1) v W0 hz GN ht hp hpl hgs hcs si k1.c0 k2.c0 (by omega) (by omega) ((l0.cell (p:=⟨1,0,none⟩) hgl).trans hg) (cv hgl l0.size));have c0:=k0.c0;have c1:=k0.c1;have c2:=k0.c2;have c3:=k0.c3;have hm0:=ub;generalize qj k p=R at ha ⊢;clear hR hok si hpl k0 k1 k2 hgs hcs GN;go_enter func107,ntmps107;go_wp2_with (go_at_call 146;refine ha.mono ?_;rintro e w1 ⟨a2,c2',rfl,hl,b1⟩;have y4:=k4.below b1;have y0:=y4.c0;have y1:=y4.c1;have y2:=y4.c2;have y3:=y4.c3;have g0:=y4.f0;have g1:=y4.f1;have g2:=y4.f2;have g3:=y4.f3);have q:=y4.dQ (.string R.mem) (.string R.aL) (.slice a2 R.ds.length c2') (aa R.ck);have v0:=q.c0;have v1:=q.c1;have v2:=q.c2;have v3:=q.c3;have l1:=l0.trans (b1.mono l0.size);refine bF (v:=.tuple #[bP R a2 c2',aa 0]) (by simp[results,results107,go_sem,v0,v1,v2,v3]) rfl ⟨a2,c2',rfl,((((hl.set (by omega) _ _).set (by omega) _ _).set (by omega) _ _).set (by omega) _ _).mono (by omega),?_⟩;exact (((l1.setCell (p:=⟨w.heap.size+1+1+1,0,none⟩) (by show w.heap.size<=w.heap.size+1+1+1;omega) _).setCell (p:=⟨w.heap.size+1+1+1,1,none⟩) (by show w.heap.size<=w.heap.size+1+1+1;omega) _).setCell (p:=⟨w.heap.size+1+1+1,2,none⟩) (by show w.heap.size<=w.heap.size+1+1+1;omega) _).setCell (p:=⟨w.heap.size+1+1+1,3,none⟩) (by show w.heap.size<=w.heap.size+1+1+1;omega) _
theorem ahF {w:World} {b o:Nat} {v:Value} (h:w.cell? ⟨b,o,none⟩=some v):b<w.heap.size:=by
 rcases tL b w.heap.size with hlt | hge;·exact hlt
 unfold World.cell? at h;rw[zc hge] at h;simp at h
theorem ahG {H:Type} {enc:TypeId × Value->H} {w:World} {fuel:Nat} {v:Value} {x:DataW H × List MemPlace} (h:DataW.trod enc prog w 0 (fun _=>true) true fuel 22 [v]=some x):∃ (a:Option Addr) (len cap:Nat),v=.slice a len cap/\oU w a len:=by
 rcases open_ints underlying22 underlying5 (by kernel_rfl) h with ⟨hcs,_⟩ | ⟨a,len,cap,zs,hcs,_,hl,hm,hz,_,hcell,hwz⟩
 ·simp at hcs;exact ⟨none,0,0,hcs,fun k hk=>absurd hk (uW _)⟩
 simp at hcs hz;refine ⟨some a,len,cap,hcs,fun k hk=>?_⟩;obtain ⟨b,off,rfl,hc⟩:=ints_at hcell (by omega);have hck:=hc k (by omega);have hmem:zs.getD k 0 ∈ zs:=by rw[jl,gM (by omega:k<zs.length)];exact ny _
 have hwf:=hwz _ hmem;have hb:0<=zs.getD k 0/\zs.getD k 0<=255:=by simpa [Lit.wf,IntKind.min,IntKind.max,IntKind.signed,IntKind.bits] using hwf
 exact ⟨b,off,zs.getD k 0,rfl,ahF hck,hb.1,by omega,hck⟩
theorem ahH (a:Option Addr) (len cap:Nat) (w:World) (hl:¬ 1048576<(len:Int)):Calls prog 4 #[.slice a len cap] w fun e w'=>e=.returned (.bool false)/\w'=w:=by
 have hl':decide (1048576<(len:Int))=false:=by simpa using hl
 go_enter func4,ntmps4;go_wp2;go_ret;exact ⟨rfl,rfl⟩
theorem ahI (a:Option Addr) (len cap:Nat) (w:World) (hl:1048576<(len:Int)):Calls prog 4 #[.slice a len cap] w fun e w'=>e=.returned (.bool true)/\w'=w:=by go_enter func4,ntmps4;go_wp2;go_ret;exact ⟨rfl,rfl⟩
end Go.Proofs.YtgpfmgaidbjcpaaGreatDoor
