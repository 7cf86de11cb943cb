/- Joined texts. -/
import Derived.Test.YtidmmopnkjbjoaaGreatDoorJpZ
import Derived.Test.YtidmmopnkjbjoaaGreatDoorJpY
set_option linter.unusedVariables false
set_option linter.unusedSimpArgs false
set_option maxRecDepth 10000
set_option maxHeartbeats 16000000
namespace Go.Proofs.YtidmmopnkjbjoaaGreatDoor
open ChangeShapes WideShapes ChangeAt RowKit
open Go.Proofs.Tryz
theorem ad1 {a b c d:ByteArray} (h:a++b=c++d) (hs:a.size=c.size):a=c/\b=d:=by
 have h1:=fK (fun x=>x.data.toList) h;simp only[mz,rX] at h1;have ha:a.data.toList.length=c.data.toList.length:=by rw[<- cV,<- cV];exact hs
 obtain ⟨h2,h3⟩:=List.append_inj h1 ha;exact ⟨gm (jB.1 h2),gm (jB.1 h3)⟩
theorem ad2 (s:ByteArray) (i n:Nat):s.extract 0 (i+n)=s.extract 0 i++s.extract i (i+n):=by apply gm;apply jB.1;rw[mz,rX,pE,pE,pE,DT,AR,AR,aiU,Nt]
theorem SD {m:ByteArray} (hm:m.size=768) (d:ak) (hp:dW d.pg=true) (hsv:d.aH.size=d.pg.length*32):∀ k,k<=d.pg.length->(bC (tY m d) k=true ↔ dj m d.pg k=d.aH.extract 0 (k*32))
 | 0,_=>by
  constructor
  ·intro _;apply gm;apply jB.1;rw[pE];simp[dj]
  ·intro _;rfl
 | k+1,hk=>by
  have ih:=SD hm d hp hsv k (by omega);have hjs:=Bt hm hp k (by omega);have hxs:(d.aH.extract 0 (k*32)).size=k*32:=by rw[lU];omega
  have hpt:aO d.aH ((k:Int)*32) 32=d.aH.extract (k*32) (k*32+32):=by rw[aO,show cZ d.aH.size ((k:Int)*32) 32=true from bF (by omega),aF rfl,show ((k:Int)*32).toNat=k*32 by omega,show ((k:Int)*32+32).toNat=k*32+32 by omega]
  rw[IA,cj,ih,dj,show (k+1)*32=k*32+32 by omega,ad2];unfold tY;rw[dC,hpt];constructor
  ·rintro ⟨h1,h2⟩;rw[h1,h2]
  ·intro h;obtain ⟨h1,h2⟩:=ad1 h (by omega);exact ⟨h1,h2.symm⟩
theorem ad3:dO 0 0 0 []=bB 16:=by decide +kernel
theorem ad4 {s:ByteArray} (h:bp s=true):aX s=0 ↔ s=bB 16:=by
 have h':=h;simp only[bp,cj,dC,qB] at h';obtain ⟨hs,ht⟩:=h';rw[wG,wG] at ht;have ht':sx s=s:=gm (jB.1 ht);rw[aX,aF h];constructor
 ·intro h0;have hok:eH (aP s 0) (aP s 1) (cm s 2) (cu s (bW s))=true:=by
   cases hk:eH (aP s 0) (aP s 1) (cm s 2) (cu s (bW s)) with
   | true=>rfl
   | false=>
    have:(sx s).size=0:=by rw[sx,dO,hk];rfl
    rw[ht',hs] at this;omega
  have h1:=hok;rw[h0,eH,aF rfl,iL] at h1;simp only[cj,dC] at h1;obtain ⟨a1,a2,a3⟩:=h1;have a4:cu s (bW s)=[]:=mW a3;rw[<- ht',sx,h0,a1,a2,a4];exact ad3
 intro hz;rw[hz];decide +kernel
theorem J3 (m:ByteArray) (P:Nat->ByteArray):∀ n (z:Int),z ∈ (fz m P n).map (fun f=>f.ino) ↔ ∃ i,i<n/\z=(i:Int)/\bZ m i≠0
 | 0,z=>by simp[fz]
 | n+1,z=>by
  rw[fz,yN,gP,J3 m P n z];by_cases hk:bZ m n=0
  ·rw[aF hk];constructor
   ·rintro (⟨i,h1,h2,h3⟩ | h);·exact ⟨i,by omega,h2,h3⟩
    cases h
   rintro ⟨i,h1,h2,h3⟩;by_cases hi:i=n
   ·rw[hi] at h3;exact absurd hk h3
   exact Or.inl ⟨i,by omega,h2,h3⟩
  ·rw[aG hk];constructor
   ·rintro (⟨i,h1,h2,h3⟩ | h);·exact ⟨i,by omega,h2,h3⟩
    simp only[mX,AS,lW] at h;exact ⟨n,by omega,by rw[h];rfl,hk⟩
   rintro ⟨i,h1,h2,h3⟩;by_cases hi:i=n
   ·right;subst hi;simp only[mX,AS,lW];rw[h2];rfl
   exact Or.inl ⟨i,by omega,h2,h3⟩
theorem SE {m:ByteArray} (hs:cv m=true) {z:Int} (h1:1<=z) (h7:z<=7):ar m z=bB 16 ↔ ¬ z ∈ gB m:=by
 obtain ⟨hm,hn,_,_⟩:=xF hs;obtain ⟨i,rfl⟩:∃ i:Nat,z=(i:Int):=⟨z.toNat,by omega⟩;have hno:=iN.1 hn i (by omega);have hI:bp (ar m (i:Int))=true:=by simp only[fv,cj] at hno;exact hno.1
 rw[<- ad4 hI];unfold gB di;rw[aF hs,J3];constructor
 ·rintro h ⟨j,hj,he,hk⟩;have:j=i:=by omega
  subst this;exact hk h
 intro h;by_cases hk:bZ m i=0;·exact hk
 exact absurd ⟨i,by omega,rfl,hk⟩ h
theorem J4 (pg po:List Int):jn pg po=true ↔ ∀ z ∈ po,¬ z ∈ pg:=by
 unfold jn;rw[iN];constructor
 ·intro h z hz;obtain ⟨i,hi,rfl⟩:=wP hz;have:=h i hi;simp only[qK,lV] at this;intro hc;rw[uU.2 hc] at this;cases this
 intro h i hi;have:=h _ (kz hi);simp only[qK,lV];cases hh:bN pg (po.getD i 0) with
 | false=>rfl
 | true=>exact absurd (uU.1 hh) this
theorem ad5 (po us:List Int):(dF (db true po us)).length=0 ↔ jn us po=true:=by
 rw[xE,J4];unfold db;rw[AY,Nx];constructor
 ·intro h z hz hc;exact h z hz (by rw[uU.2 hc];rfl)
 intro h z hz hc;have h1:bN us z=true:=by simpa using hc
 exact h z hz (uU.1 h1)
theorem ad6 {m:ByteArray} (hs:cv m=true) (d:ak):ud m (cY m) d=tW m (cY m) (gB m) d:=by
 obtain ⟨hm,_,_,_⟩:=xF hs;unfold ud tW;cases hok:bT d with
 | false=>rfl
 | true=>
  obtain ⟨hI,hK,hgz,hsv,Lm,-,te,wu,hp2,eZ,hfi,-,-⟩:=iO hok;rw[fe,fe];by_cases hrc:ar m d.ino=d.rc
  ·rw[bF hrc,bF hrc.symm];have hl:dY m d.ino=true:=OB hm (by rw[hrc];exact hI) (by
    rw[hrc];rw[aX,aF hI] at hK;exact hK)
   rw[hl,fe,fe,fe];have e1:bC (tY m d) d.pg.length=decide (dj m d.pg d.pg.length=d.aH):=by
    rw[qC,SD hm d (Sc eZ) hsv d.pg.length (aq _),dC];have hx:d.aH.extract 0 (d.pg.length*32)=d.aH:=by apply gm;apply jB.1;rw[pE,DT,AR,<- hsv,cV,ks]
    rw[hx]
   have e2:bC (ub m d) d.fr.length=jn (gB m) d.fr:=by
    rw[qC,J4,iN];constructor
    ·intro h z hz;obtain ⟨i,hi,rfl⟩:=wP hz;have h1:=h i hi;unfold ub at h1;have h2:=hfi _ hz;exact (SE hs h2.1 h2.2).1 (of_decide_eq_true h1)
    intro h i hi;have hz:=kz hi;have h2:=hfi _ hz;unfold ub;exact bF ((SE hs h2.1 h2.2).2 (h _ hz))
   have e3:decide ((dF (db true d.po (cY m))).length=0)=jn (cY m) d.po:=by rw[qC,dC];exact ad5 _ _
   rw[e1,e2,e3]
  ·rw[bq hrc,bq (fun h=>hrc h.symm),dH,dH,dU]
theorem SF (f h:ak->List Int) (ds:List ak):∀ k,(bD f ds k++bD h ds k).Perm (bD (fun d=>f d++h d) ds k)
 | 0=>List.Perm.refl _
 | k+1=>by rw[bD,bD,bD];refine List.Perm.trans ?_ ((SF f h ds k).append_right _);rw[jQ,jQ];exact (List.perm_append_comm_assoc _ _ _).append_left _
theorem ad7 {xs ys:List Int} (h:xs.Perm ys):dM xs=dM ys:=by rw[qC,JK,JK];exact h.nodup_iff
theorem SG (k:aL):dJ (fi k.ds)=true ↔ ∀ j,j<k.ds.length->(j=0\/(au k.ds (j-1)).ino<(au k.ds j).ino):=by
 have hl:=zX k.ds k.ds.length;unfold dJ fi;rw[iN,hl];constructor
 ·intro h j hj;have h1:=h j hj;simp only[qJ,kY,dC] at h1;rcases h1 with h1 | h1;·exact Or.inl h1
  right;rwa [xH _ _ _ (by omega),xH _ _ _ hj] at h1
 intro h j hj;simp only[qJ,kY,dC];rcases h j hj with h1 | h1;·exact Or.inl h1
 right;rwa [xH _ _ _ (by omega),xH _ _ _ hj]
theorem xK (k:aL):FX k=fj k:=by
 unfold FX fj;cases hd:cT k.mem k.ay with
 | false=>rfl
 | true=>
  obtain ⟨h1,h2⟩:=nW hd;have hck:aW k.ck 0 999999=(!decide (k.ck<0) && !decide (999999<k.ck)):=by rw[qC,jE,cj,lV,lV,qy,qy];omega
  rw[hck];cases hs:cv (bM k) with
  | false=>simp
  | true=>
   have e1:dM (bD (fun d:ak=>d.ino :: d.fr) k.ds k.ds.length)=dM (fi k.ds++kh k.ds):=(ad7 (SF (fun d:ak=>[d.ino]) (fun d:ak=>d.fr) k.ds k.ds.length)).symm;have e2:FW k=zW k:=(adZ k.mem k.ay h1 h2 k.ds k.ds.length).symm;have e3:bC (oD k) k.ds.length=(dJ (fi k.ds) && bC (kg k) k.ds.length):=by
    rw[qC,cj,SG,iN,iN];have hh:∀ j,oD k j=(kg k j && (decide (j=0) || decide ((au k.ds (j-1)).ino<(au k.ds j).ino))):=fun j=>by unfold oD kg;rw[ad6 hs]
    constructor
    ·intro h;refine ⟨fun j hj=>?_,fun j hj=>?_⟩
     ·have h3:=h j hj;rw[hh] at h3;simp only[cj,kY,dC] at h3;exact h3.2
     have h3:=h j hj;rw[hh] at h3;simp only[cj] at h3;exact h3.1
    rintro ⟨h3,h4⟩ j hj;rw[hh,h4 j hj];simp only[fe,kY,dC];exact h3 j hj
   rw[e1,e2,e3];show _=_
   generalize dM (fi k.ds++kh k.ds)=b1;generalize zW k=b2;generalize dJ (fi k.ds)=b3;generalize bC (kg k) k.ds.length=b4;generalize dM (sV k.ds)=b5;generalize decide (k.ck<0)=b6;generalize decide (999999<k.ck)=b7;cases b1 <;> cases b2 <;> cases b3 <;> cases b4 <;> cases b5 <;> cases b6 <;> cases b7 <;> rfl
section
theorem SH (d:ak):∀ (xs:List ak) (ss:Nat->aA),cX (xs ++ [d]) ss=cX xs ss++eI d (ss xs.length)
 | [],ss=>by simp[cX]
 | x :: r,ss=>by rw[nS,cX,cX,SH d r,jQ];rfl
theorem SI:∀ (xs:List ak) (ss tt:Nat->aA),(∀ i,i<xs.length->ss i=tt i)->cX xs ss=cX xs tt
 | [],ss,tt,_=>rfl
 | x :: r,ss,tt,h=>by rw[cX,cX,h 0 (by simp),SI r _ (fun j=>tt (j+1)) (fun i hi=>h (i+1) (by simpa using hi))]
def vK (ss:Nat->aA) (j:Nat) (s:aA):Nat->aA:=fun i=>if i<j then ss i else s
theorem ad8 {ds:List ak} {j:Nat} (hj:j<ds.length) (ss:Nat->aA) (s:aA):cX (ds.take (j+1)) (vK ss j s)=cX (ds.take j) ss++eI (au ds j) s:=by
 have e:ds.take (j+1)=ds.take j ++ [au ds j]:=by rw[List.take_add_one,gD hj];simp[au,hj]
 have hl:(ds.take j).length=j:=by simp;omega
 rw[e,SH,hl,SI (ds.take j) (vK ss j s) ss (fun i hi=>by rw[hl] at hi;simp[vK,hi])];simp[vK]
def lF (base:Nat) (g:Option Nat) (W:World) (a:Option Addr) (zs:List Int):Prop:=zs=[]\/∃ b,a=some ⟨b,0,none⟩/\base<=b/\g≠some b/\av b (bU zs) W
variable {base : Nat} {g g' : Option Nat} {w W W' : World} {a : Option Addr} {zs : List Int} {d : ak} {s : aA}
theorem lF.below (h:lF base g W a zs) (hb:aj W W'):lF base g W' a zs:=h.imp id fun ⟨b,e,h1,h2,h3⟩=>⟨b,e,h1,h2,h3.below hb⟩
theorem lF.set (h:lF base g W a zs) {B:Nat} (hB:B<base) (j:Nat) (v:Value):lF base g (W.setCell ⟨B,j,none⟩ v) a zs:=h.imp id fun ⟨b,e,h1,h2,h3⟩=>⟨b,e,h1,h2,h3.aR (by omega) j v⟩
theorem lF.grown (h:lF base g W a zs) (hg:W.grownBy W' g) (h':∀ x,g'=some x->g=some x\/x=W.heap.size):lF base g' W' a zs:=
 h.imp id fun ⟨b,e,h1,h2,h3⟩=>⟨b,e,h1,fun q=>by
  rcases h' b q with h' | h';·exact h2 h'
  have:=h3.lt;omega,kM h3 hg h2⟩
theorem lF.row (h:lF base g W a zs):aI W a zs:=by
 rcases h with h | ⟨b,rfl,_,_,h⟩;·exact Or.inl h
 exact wR h
theorem J5 {lo hi:Nat} (h:jb lo hi W a zs) (hb:base<=lo) (hg:∀ x,g=some x->x<lo):lF base g W a zs:=h.imp id fun ⟨b,e,h1,h2,h3⟩=>⟨b,e,by omega,fun q=>by have:=hg b q;omega,h3⟩
structure ad9 (base:Nat) (g:Option Nat) (d:ak) (s:aA) (W:World):Prop where
 r1:lF base g W s.a1 d.pg
 r2:lF base g W s.a2 d.po
 r3:lF base g W s.a3 d.fr
structure gN (base:Nat) (ds:List ak) (j:Nat) (ss:Nat->aA) (a:Option Addr) (cap:Nat) (W:World):Prop where
 own:W.ownsRow base 49 8 (.slice a j cap) j (cX (ds.take j) ss)
 sub:∀ i,i<j->ad9 base (Value.slice a j cap).ownBlock (au ds i) (ss i) W
variable {ds : List ak} {j cap : Nat} {ss : Nat → aA}
theorem gN.below (h:gN base ds j ss a cap W) (hb:aj W W'):gN base ds j ss a cap W':=⟨uO h.own hb,fun i hi=>⟨(h.sub i hi).r1.below hb,(h.sub i hi).r2.below hb,(h.sub i hi).r3.below hb⟩⟩
theorem gN.set (h:gN base ds j ss a cap W) {B:Nat} (hB:B<base) (k:Nat) (v:Value):gN base ds j ss a cap (W.setCell ⟨B,k,none⟩ v):=⟨H7 h.own (a:=⟨B,k,none⟩) hB v,fun i hi=>⟨(h.sub i hi).r1.set hB k v,(h.sub i hi).r2.set hB k v,(h.sub i hi).r3.set hB k v⟩⟩
theorem aea (ds:List ak) (ss:Nat->aA) (W:World):gN base ds 0 ss none 0 W:=⟨⟨by simp[cX],Or.inl ⟨rfl,rfl⟩⟩,fun i hi=>by omega⟩
theorem gN.lt (h:gN base ds j ss a cap W):∀ x,(Value.slice a j cap).ownBlock=some x->x<W.heap.size:=fun x hx=>(h.own.lt x hx).2
theorem gN.eN (h:gN base ds ds.length ss a cap W):aZ W a ds ss:=by
 refine ⟨?_,fun i hi=>⟨(h.sub i hi).r1.row,(h.sub i hi).r2.row,(h.sub i hi).r3.row⟩⟩;have ho:=h.own;rw[ks] at ho;rcases ho.2 with ⟨_,h0⟩ | ⟨g,c,cur,hv,_⟩;·exact Or.inl (mW h0)
 simp at hv;obtain ⟨rfl,rfl⟩:=hv;obtain ⟨_,hk⟩:=Fq ho (ou ds ss);exact Or.inr ⟨g,0,rfl,hk.lt,fun i hi=>by rw[cR];exact BW hk (zD ds ss i hi)⟩
theorem gN.step {lo m1 m2 hi cap':Nat} {a':Option Addr} (h:gN base ds j ss a cap W) (hl:gy lo m1 m2 hi s (au ds j).pg (au ds j).po (au ds j).fr W) (hb:base<=lo) (hg:∀ x,(Value.slice a j cap).ownBlock=some x->x<lo) (hj:j<ds.length) (ho:W'.ownsRow base 49 8 (.slice a' (j+1) cap') (j+1) (cX (ds.take j) ss++eI (au ds j) s)) (hw:W.grownBy W' (Value.slice a j cap).ownBlock) (hx:∀ x,(Value.slice a' (j+1) cap').ownBlock=some x->(Value.slice a j cap).ownBlock=some x\/x=W.heap.size):gN base ds (j+1) (vK ss j s) a' cap' W':=by
 refine ⟨by rw[ad8 hj];exact ho,fun i hi=>?_⟩;by_cases hij:i<j
 ·have e:vK ss j s i=ss i:=aF hij;rw[e];have q:=h.sub i hij;exact ⟨q.r1.grown hw hx,q.r2.grown hw hx,q.r3.grown hw hx⟩
 obtain rfl:i=j:=by omega
 have e:vK ss i s i=s:=aG hij;rw[e];exact ⟨(J5 hl.p1 hb hg).grown hw hx,(J5 hl.p2 (by have:=hl.le;omega) (fun x q=>by have:=hg x q;have:=hl.le;omega)).grown hw hx,(J5 hl.p3 (by have:=hl.le;omega) (fun x q=>by have:=hg x q;have:=hl.le;omega)).grown hw hx⟩
end
section
section
variable {P : Program} {ops : Array Oper} {Q : Exit → Act → World → Prop} {md : Region.Mode} {S : World → Prop} {n : Nat}
theorem J6 {a:Act} {w w':World} {u:Value} {i:Nat} {o:Oper} {listed:Array Bool} {fuel:Nat} (hr:Region.ready md ops listed=[i]) (ho:ops[i]? = some o) (hw:Region.wanted o (yielded ops a.tmps)=true) (he:(execOp a.eval o).run P w=.ok (.value u) w') (hS:S w') (h:fZ P md ops Q S n fuel (listed.setIfInBounds i true) (a.put o.dst u) w'):fZ P md ops Q S n (fuel+1) listed a w:=by
 refine wY hr (by simp) ?_;intro j hj;obtain rfl:j=i:=by simpa using hj
 unfold wpOp;rw[ho];refine gT hw (.inl ?_);unfold Oper.wp;rw[he];exact ⟨fun _=>hS,h⟩
theorem aeb {a:Act} {w:World} {i:Nat} {o:Oper} {listed:Array Bool} {fuel:Nat} (hr:Region.ready md ops listed=[i]) (ho:ops[i]? = some o) (hw:Region.wanted o (yielded ops a.tmps)=true) (h:Oper.wp P o a w (fun a' w'=>(i<n->S w')/\fZ P md ops Q S n fuel (listed.setIfInBounds i true) a' w') Q):fZ P md ops Q S n (fuel+1) listed a w:=by
 refine wY hr (by simp) ?_;intro j hj;obtain rfl:j=i:=by simpa using hj
 unfold wpOp;rw[ho];exact gT hw (.inl h)
end
theorem SJ (d:ak) (s:aA):∀ u ∈ eI d s,u.oneCell'=true:=by intro u h;simp at h;rcases h with rfl | rfl | rfl | rfl | rfl | rfl | rfl | rfl <;> rfl
structure ue (w:World) (k:aL) (a:Option Addr) (c j:Nat) (ab:Option Addr) (cc:Nat) (W:World):Prop where
 box:av w.heap.size (cU k a c) W
 az:av (w.heap.size+1) gV W
 tg:av (w.heap.size+1+1) [.string k.mem,.string k.ay,.slice ab j cc,.int .i64 k.ck] W
variable {w W W' : World} {k : aL} {a ab : Option Addr} {c j cc : Nat} {ss : Nat → aA} {row : Option Nat}
theorem ue.below (h:ue w k a c j ab cc W) (hb:aj W W'):ue w k a c j ab cc W':=⟨h.box.below hb,h.az.below hb,h.tg.below hb⟩
theorem ue.set (h:ue w k a c j ab cc W) (U2:Option Addr) (j' cc':Nat):ue w k a c j' U2 cc' (W.setCell ⟨w.heap.size+1+1,2,none⟩ (.slice U2 j' cc')):=⟨h.box.aR (by omega) _ _,h.az.aR (by omega) _ _,h.tg.set 2 _⟩
def ug (w:World) (k:aL) (a:Option Addr) (c j:Nat) (ss:Nat->aA) (ab:Option Addr) (cc:Nat) (W:World):Prop:=ue w k a c j ab cc W/\gN (w.heap.size+3) k.ds j ss ab cc W/\aj w W
theorem ug.below (h:ug w k a c j ss ab cc W) (hb:aj W W'):ug w k a c j ss ab cc W':=⟨h.1.below hb,h.2.1.below hb,h.2.2.trans (hb.mono h.2.2.size)⟩
theorem ug.lt (h:ug w k a c j ss ab cc W):∀ x,(Value.slice ab j cc).ownBlock=some x->x<W.heap.size:=h.2.1.lt
theorem ug.grown (h:ug w k a c j ss ab cc W) (hg:W.grownBy W' (Value.slice ab j cc).ownBlock):ue w k a c j ab cc W'/\aj w W':=by have hn:∀ x,(Value.slice ab j cc).ownBlock=some x->w.heap.size+3<=x:=fun x hx=>(h.2.1.own.lt x hx).1;exact ⟨⟨kM h.1.box hg (fun q=>by have:=hn _ q;omega),kM h.1.az hg (fun q=>by have:=hn _ q;omega),kM h.1.tg hg (fun q=>by have:=hn _ q;omega)⟩,lY h.2.2 hg (fun g q=>by have:=hn _ q;omega) h.2.2.size⟩
abbrev aec (k:aL):Obj:=.cells #[.string k.mem,.string k.ay,.slice none 0 0,.int .i64 k.ck] 28
theorem aed (w:World) (k:aL) (a:Option Addr) (c:Nat) (ss:Nat->aA):ug w k a c 0 ss none 0 (((w.alloc (cJ k a c)).alloc df).alloc (aec k)):=⟨⟨((bu (cU k a c) w 28).alloc _).alloc _,(gH gV _ 28 (by simp)).alloc _,gH [.string k.mem,.string k.ay,.slice none 0 0,ad k.ck] _ 28 (by simp)⟩,aea _ _ _,(((aK _ _).alloc (aq _) _).alloc (by simp) _).alloc (by simp;omega) _⟩
def vL (k:aL) (w:World) (e:Ending) (w':World):Prop:=∃ a' c' ss,e=.returned (aU k a' c')/\gN (w.heap.size+3) k.ds k.ds.length ss a' c' w'/\aj w w'
theorem Aa (k:aL) (a:Option Addr) (c:Nat) (s0:Nat->aA) (w:World) (hn:k.ds.length<=1048576) (hz:xp k.ds) (hR:aZ w a k.ds s0):Calls prog 20 #[aU k a c] w (vL k w):=by
 have t0:=aed w k a c s0;have gy:Hid (∀ W,aj w W->aZ W a k.ds s0):=fun W hb=>hR.below hb;have HZ:Hid (xp k.ds):=hz;have b0:=(bu (cU k a c) w 28).alloc df;have c0:=b0.c0;have c1:=b0.c1;have c3:=b0.c3;obtain ⟨i0,hi0,hz0,hz1,hz2⟩:=iW Fg;clear hR hz b0;unfold vL;go_enter func20,ntmps20;go_wp2;go_loopw [4] (fun i w'=>∃ (j:Nat) (ss:Nat->aA) (ab:Option Addr) (cc:Nat),j<=k.ds.length/\i=ad j/\ug w k a c j ss ab cc w') (fun i _=>k.ds.length-(intOf i).toNat);case atStart=>exact ⟨0,s0,none,0,aS _,rfl,t0⟩
 case round=>
 obtain ⟨j,ss,ab,cc,hj,rfl,tr⟩:=hrel;clear t0 c0 c1 c3;have c2:=tr.1.box.c2;by_cases hlt:j<k.ds.length
 ·have ls:=(gy.out _ tr.2.2).sub j hlt;obtain ⟨q1,q2,q3,q4,q5⟩:=HZ.out j hlt;obtain ⟨b,off,rfl,fW,hc⟩:=(gy.out _ tr.2.2).row.get hlt;have HJ:Hid (j<k.ds.length):=hlt;have HA:Hid (∀ W,aj w W->∃ b' off',some (⟨b,off,none⟩:Addr)=some ⟨b',off',none⟩/\b'<W.heap.size/\∀ j,j<k.ds.length->mg W b' (off'+j*8) (au k.ds j) (s0 j)):=fun W hb=>(gy.out W hb).row.get HJ.out;obtain ⟨d,ed⟩:∃ d,au k.ds j=d:=⟨_,rfl⟩;obtain ⟨s,es⟩:∃ s,s0 j=s:=⟨_,rfl⟩;have HD:Hid (au k.ds j=d):=ed;have HS:Hid (∀ W,ue w k (some ⟨b,off,none⟩) c j ab cc W->aj w W->af W (w.heap.size+1+1) 2 (.slice ab j cc)/\af W w.heap.size 2 (.slice (some ⟨b,off,none⟩) k.ds.length c)/\af W b (off+j*8) (ad d.ino)/\af W b (off+j*8+1) (ad d.cl)/\af W b (off+j*8+2) (ad d.un)/\af W b (off+j*8+3) (.string d.rc)/\af W b (off+j*8+4) (.slice s.a1 d.pg.length s.c1)/\af W b (off+j*8+5) (.string d.aH)/\af W b (off+j*8+6) (.slice s.a2 d.po.length s.c2)/\af W b (off+j*8+7) (.slice s.a3 d.fr.length s.c3)):=fun W h hb=>by
   obtain ⟨b',off',e',_,h'⟩:=HA.out W hb;simp at e';obtain ⟨rfl,rfl⟩:=e';obtain ⟨y0,y1,y2,y3,y4,y5,y6,y7⟩:=h' j HJ.out;rw[ed] at y0 y1 y2 y3 y4 y5 y6 y7;rw[es] at y4 y6 y7;exact ⟨h.tg.c2,h.box.c2,y0,y1,y2,y3,y4,y5,y6,y7⟩
  rw[ed,es] at ls;rw[ed] at q1 q2 q3 q4 q5;have t4:=tr.below ((aK _ wr).drew);have hcp:Hid (Calls prog 68 #[bH d s] wr.drew (Fo d wr.drew)):=aa6 d s wr.drew (by omega) (by omega) (by omega) (ls.below ((aK _ wr).drew));have s4:=HS.out _ t4.1 t4.2.2;have x1:(0:Int)<=(j:Int):=by omega
  have x2:(j:Int)<(k.ds.length:Int):=by omega
  have z4:w.heap.size+3<=wr.drew.heap.size:=t4.1.tg.lt;clear ed es hc ls HA;go_wp2;refine BL (n:=11) (S:=fun W=>af W (w.heap.size+1+1) 2 (.slice ab j cc)/\af W w.heap.size 2 (.slice (some ⟨b,off,none⟩) k.ds.length c)/\af W b (off+j*8) (ad d.ino)/\af W b (off+j*8+1) (ad d.cl)/\af W b (off+j*8+2) (ad d.un)/\af W b (off+j*8+3) (.string d.rc)/\af W b (off+j*8+4) (.slice s.a1 d.pg.length s.c1)/\af W b (off+j*8+5) (.string d.aH)/\af W b (off+j*8+6) (.slice s.a2 d.po.length s.c2)/\af W b (off+j*8+7) (.slice s.a3 d.fr.length s.c3)) (by kernel_rfl) ?_;refine jY 0 (aD (w.heap.size+1+1) 2) s4 ?_;refine sH 1 (.slice ab j cc) s4 ?_;refine jY 2 (aD w.heap.size 2) s4 ?_;refine sH 3 (.slice (some ⟨b,off,none⟩) k.ds.length c) s4 ?_;refine jY 4 (ad j) s4 ?_;refine sH 5 (aD b (off+j*8)) s4 ?_;refine sH 6 (bH d s) s4 ?_;refine zp (i:=7) (by kernel_rfl) rfl (by rfl) (.tmp 23) _ rfl (bH d s) (by rfl) (bh func68 (by kernel_rfl) rfl) (hcp.out.mono ?_);rintro e w5 ⟨s',m1,m2,hi,rfl,hl,hh,b5⟩;have t5:=t4.below b5;have s5:=HS.out _ t5.1 t5.2.2;have z5:=b5.size;refine ⟨_,rfl,s5,?_⟩;simp only[ao,Act.put,Nat.reduceAdd];have nb:=aB w5 (.cells (dZ d s') 49);have t6:=t5.below nb;have s6:=HS.out _ t6.1 t6.2.2;have hl6:=hl.below nb;refine J6 (i:=8) (w':=w5.alloc (.cells (dZ d s') 49)) (u:=bg w5.heap.size 1 1) (by kernel_rfl) rfl (by rfl) ?_ s6 ?_;·go_simp
  simp only[ao,Act.put,Nat.reduceAdd];refine aeb (i:=9) (by kernel_rfl) rfl (by rfl) ?_;refine wp_append_lies (w5.alloc (.cells (dZ d s') 49)) (.tmp 18) (.tmp 25) 26 rfl (w.heap.size+3) 49 i0 (.agg Ff) 8 128 underlying26 hi0 hz0 hz1 hz2 rfl (by omega) (.slice ab j cc) j _ (by rfl) t6.2.1.own ⟨w5.heap.size,0,none⟩ 1 1 (eI d s') (by rfl) rfl (rZ (pF w5 _)) (SJ d s') (by omega) (by unfold maxLen;omega) (by omega) (by simp;omega) _ rfl ?_;intro g' cap' w7 ho' hg' hx' hlt';have t7:=t6.grown hg';have s7:=HS.out _ t7.1 t7.2;have lq7:=gN.step t6.2.1 (by rw[HD.out];exact hl6) (by omega) t4.lt HJ.out (by rw[HD.out];exact ho') hg' (fun x hx=>by simp[Value.ownBlock] at hx;subst hx;exact hx');refine ⟨fun _=>s7,?_⟩;simp only[ao,Act.put,Nat.reduceAdd];refine jY 10 (aD (w.heap.size+1+1) 2) s7 ?_;have f7:=t7.1.tg.free 2 (by simp);obtain ⟨n1,n2,y0,y1,y2,y3,y4,y5,y6,y7⟩:=s7;refine wZ (i:=11) (w':=w7.setCell ⟨w.heap.size+1+1,2,none⟩ (bg g' (j+1) cap')) (by kernel_rfl) rfl (by decide) (by rfl) ?_ ?_;·go_simp
  simp only[ao,Act.put,Nat.reduceAdd];refine BK (by kernel_rfl) ?_ _;have t8:=t7.1.set (some ⟨g',0,none⟩) (j+1) cap';have l8:=lq7.set (B:=w.heap.size+1+1) (by omega) 2 (bg g' (j+1) cap');have m8:=t7.2.setCell (p:=⟨w.heap.size+1+1,2,none⟩) (by show w.heap.size<=w.heap.size+1+1;omega) (bg g' (j+1) cap');go_wp2;go_roundw;case rel=>exact ⟨j+1,vK ss j s',some ⟨g',0,none⟩,cap',HJ.out,by go_num,t8,l8,m8⟩
  case measure=>simp[intOf];omega
 obtain rfl:j=k.ds.length:=by omega
 have d0:=tr.1.tg.c0;have d1:=tr.1.tg.c1;have d2:=tr.1.tg.c2;have d3:=tr.1.tg.c3;have y0:=tr.1.az.c0;have y1:=tr.1.az.c1;have y2:=tr.1.az.c2;have y3:=tr.1.az.c3;have g0:=tr.1.az.f0;have g1:=tr.1.az.f1;have g2:=tr.1.az.f2;have g3:=tr.1.az.f3;have qq:=tr.1.az.eU (.string k.mem) (.string k.ay) (.slice ab k.ds.length cc) (ad k.ck);have ll:=(((tr.2.1.set (B:=w.heap.size+1) (by omega) 0 (.string k.mem)).set (B:=w.heap.size+1) (by omega) 1 (.string k.ay)).set (B:=w.heap.size+1) (by omega) 2 (.slice ab k.ds.length cc)).set (B:=w.heap.size+1) (by omega) 3 (ad k.ck);have mm:=(((tr.2.2.setCell (p:=⟨w.heap.size+1,0,none⟩) (bP _) (.string k.mem)).setCell (p:=⟨w.heap.size+1,1,none⟩) (bP _) (.string k.ay)).setCell (p:=⟨w.heap.size+1,2,none⟩) (bP _) (.slice ab k.ds.length cc)).setCell (p:=⟨w.heap.size+1,3,none⟩) (bP _) (ad k.ck);have v0:=qq.c0;have v1:=qq.c1;have v2:=qq.c2;have v3:=qq.c3;clear gy HZ;go_wp2;exact bL (v:=aU k ab cc) (by simp[results,results20,go_sem,v0,v1,v2,v3]) rfl ⟨ab,cc,ss,rfl,ll,mm⟩
end
def iE (p:ByteArray × ByteArray) (i:Int):ByteArray × ByteArray:=(nX p.1 p.2 (bA i) (bB 16),mf (nX p.1 p.2 (bA i) (bB 16)) p.2 (bA i) 16)
def mN (zs:List Int) (p:ByteArray × ByteArray):Nat->ByteArray × ByteArray
 | 0=>p
 | n+1=>iE (mN zs p n) (zs.getD n 0)
theorem aee (s:ByteArray) (i:Int) (t:ByteArray):(bJ s i t).size=s.size:=by
 unfold bJ;split
 ·rename_i h;obtain ⟨h0,h1,h2⟩:=si h;rw[fk,fk,lU,lU];omega
 rfl
theorem Cy (a b:ByteArray) (i:Int) (t:ByteArray):(nX a b i t).size=a.size:=by
 unfold nX;split;·exact aee _ _ _
 rfl
theorem J7 (a b:ByteArray) (i n:Int) (hb:b.size=768):(mf a b i n).size=768:=by
 unfold mf;split
 ·show (cK _ _ _).toArray.size=768
  rw[nh,ja]
 exact hb
def jN (p:ByteArray × ByteArray):Prop:=p.1.size=768/\p.2.size=768
theorem aef {p:ByteArray × ByteArray} (h:jN p) (i:Int):jN (iE p i):=⟨(Cy _ _ _ _).trans h.1,J7 _ _ _ _ h.2⟩
theorem FZ {p:ByteArray × ByteArray} (h:jN p) (zs:List Int):∀ n,jN (mN zs p n)
 | 0=>h
 | n+1=>aef (FZ h zs n) _
theorem aeg {b:Bool} {zs al:List Int} (h:dJ zs=true):dF (db b zs al)=db b zs al:=by refine JM (Cr _) (RS _) ?_;have h1:=Er.1 h;exact ((h1.sublist (List.filter_sublist)).imp fun h=>Int.le_of_lt h)
def J8 (k:aL) (x:Int):Bool:=!(bN (bD (fun d:ak=>[d.ino]) k.ds k.ds.length) x || (decide (mF (bM k) x=2) && !decide (jV (bM k) x=0)))
def Ab (k:aL) (x:Int):Bool:=!(bN (bD (fun d:ak=>d.ino :: d.fr) k.ds k.ds.length) x || (decide (mF (bM k) x=2) && decide (0<jV (bM k) x)))
def oE (k:aL) (d:ak):Bool:=fG k.mem d && bC (fun j=>J8 k ((eb k.mem d).getD j 0)) (eb k.mem d).length
def xL (k:aL) (d:ak):Bool:=fG k.mem d && bC (fun j=>Ab k ((eb k.mem d).getD j 0)) (eb k.mem d).length
theorem J9 {f:ak->List Int} {ds:List ak} {z:Int}:∀ {n:Nat},z ∈ bD f ds n ↔ ∃ i,i<n/\z ∈ f (au ds i)
 | 0=>by simp[bD]
 | n+1=>by
  rw[bD,gP,J9];constructor
  ·rintro (⟨i,h1,h2⟩ | h);·exact ⟨i,by omega,h2⟩
   exact ⟨n,by omega,h⟩
  ·rintro ⟨i,h1,h2⟩;by_cases h:i=n;·subst h;exact Or.inr h2
   exact Or.inl ⟨i,by omega,h2⟩
theorem aeh (m:ByteArray) (i:Int):0<=jV m i:=by
 unfold jV;split
 ·rename_i h;have h':=h;simp only[dY,cj] at h';exact (mH h'.2.1).1.1
 exact Int.le_refl _
theorem SL {k:aL} {x:Int} (h:∀ i,i<k.ds.length->¬ x ∈ (au k.ds i).fr):J8 k x=Ab k x:=by
 have e1:bN (bD (fun d:ak=>[d.ino]) k.ds k.ds.length) x=bN (bD (fun d:ak=>d.ino :: d.fr) k.ds k.ds.length) x:=by
  rw[qC,uU,uU,J9,J9];constructor
  ·rintro ⟨i,h1,h2⟩;exact ⟨i,h1,by simp at h2;simp[h2]⟩
  rintro ⟨i,h1,h2⟩;rcases iY.1 h2 with h2 | h2;·exact ⟨i,h1,by simp[h2]⟩
  exact absurd h2 (h i h1)
 have e2:(!decide (jV (bM k) x=0))=decide (0<jV (bM k) x):=by have:=aeh (bM k) x;rw[qC,lV,qy,dC];omega
 unfold J8 Ab;rw[e1,e2]
theorem aei {k:aL} {d:ak} (h:∀ x ∈ eb k.mem d,∀ i,i<k.ds.length->¬ x ∈ (au k.ds i).fr):xL k d=oE k d:=by
 unfold xL oE;congr 1;rw[qC,iN,iN];constructor
 ·intro h1 i hi;rw[SL (h _ (kz hi))];exact h1 i hi
 intro h1 i hi;rw[<- SL (h _ (kz hi))];exact h1 i hi
def xM (k:aL) (d:ak) (t:Bool):ByteArray × ByteArray:=
  if t=true then
    ((mN (eb k.mem d++db false d.fr (fH k.mem d)) (k.mem,k.ay) (eb k.mem d++db false d.fr (fH k.mem d)).length).1,
     dG (mN (eb k.mem d++db false d.fr (fH k.mem d)) (k.mem,k.ay) (eb k.mem d++db false d.fr (fH k.mem d)).length).1 (mN (eb k.mem d++db false d.fr (fH k.mem d)) (k.mem,k.ay) (eb k.mem d++db false d.fr (fH k.mem d)).length).2 (aJ d) (aJ d).length)
  else (dy k.mem d,dG (dy k.mem d) k.ay (aJ d) (aJ d).length)
def eL (k:aL) (p:Nat):aL:=⟨(xM k (au k.ds p) (oE k (au k.ds p))).1,(xM k (au k.ds p) (oE k (au k.ds p))).2,k.ds.eraseIdx p,k.ck⟩
def oF (k:aL) (p:Nat):Int:=if oE k (au k.ds p)=true then 0 else 5
def bV (ck:Int) (ds:List ak):Nat->Nat
 | 0=>0
 | j+1=>if (au ds j).un<=ck then bV ck ds j else bV ck ds j+1
def br (k:aL):Nat->aL × List Int
 | 0=>(k,[])
 | j+1=>if (au k.ds j).un<=k.ck then (eL (br k j).1 (bV k.ck k.ds j),(br k j).2 ++ [oF (br k j).1 (bV k.ck k.ds j)]) else br k j
theorem xN (ds:List ak) (p i:Nat):au (ds.eraseIdx p) i=if i<p then au ds i else au ds (i+1):=by unfold au;rw[jR,List.getElem?_eraseIdx];split <;> rw[jR]
theorem SM {m:ByteArray} (h:m.size=768) (d:ak):(dy m d).size=768:=(Re m d).trans h
theorem SN {k:aL} (h:jN (k.mem,k.ay)) (d:ak) (t:Bool):jN (xM k d t):=by
 unfold xM;split
 ·have h1:=FZ h (eb k.mem d++db false d.fr (fH k.mem d)) (eb k.mem d++db false d.fr (fH k.mem d)).length;exact ⟨h1.1,Cv _ _ _ h1.2 _⟩
 exact ⟨SM h.1 d,Cv _ _ _ h.2 _⟩
structure aej (k:aL) (j:Nat):Prop where
 ok:jN ((br k j).1.mem,(br k j).1.ay)
 ck:(br k j).1.ck=k.ck
 le:bV k.ck k.ds j<=j
 len:(br k j).1.ds.length=bV k.ck k.ds j+(k.ds.length-j)
 rest:∀ i,i<k.ds.length-j->au (br k j).1.ds (bV k.ck k.ds j+i)=au k.ds (j+i)
 done:∀ i,i<bV k.ck k.ds j->∃ i',i'<j/\au (br k j).1.ds i=au k.ds i'
 sub:(br k j).1.ds.Sublist k.ds
 UB:(br k j).2.length<=j
theorem Ac (k:aL) (h:jN (k.mem,k.ay)):∀ j,j<=k.ds.length->aej k j
 | 0,_=>⟨h,rfl,aq _,by simp[br,bV],fun i hi=>by simp[br,bV],fun i hi=>absurd hi (tF _),List.Sublist.refl _,by simp[br]⟩
 | j+1,hj=>by
  have ih:=Ac k h j (by omega);by_cases hu:(au k.ds j).un<=k.ck
  ·have e1:br k (j+1)=(eL (br k j).1 (bV k.ck k.ds j),(br k j).2 ++ [oF (br k j).1 (bV k.ck k.ds j)]):=by rw[br,aF hu]
   have e2:bV k.ck k.ds (j+1)=bV k.ck k.ds j:=by rw[bV,aF hu]
   have hl:=ih.len;refine ⟨?_,?_,?_,?_,?_,?_,?_,?_⟩;·rw[e1];exact SN ih.ok _ _
   ·rw[e1];exact ih.ck
   ·rw[e2];have:=ih.le;omega
   ·rw[e1,e2];show ((br k j).1.ds.eraseIdx _).length=_
    rw[D8,aF (by omega)];omega
   ·intro i hi;rw[e1,e2];show au ((br k j).1.ds.eraseIdx _) _=_
    rw[xN,aG (by omega),mD,ih.rest (i+1) (by omega),show j+(i+1)=j+1+i by omega]
   ·intro i hi;rw[e2] at hi;obtain ⟨i',h1,h2⟩:=ih.done i hi;refine ⟨i',by omega,?_⟩;rw[e1];show au ((br k j).1.ds.eraseIdx _) _=_
    rw[xN,aF hi,h2]
   ·rw[e1];exact (List.eraseIdx_sublist _ _).trans ih.sub
   rw[e1];have:=ih.UB;simp;omega
  ·have e1:br k (j+1)=br k j:=by rw[br,aG hu]
   have e2:bV k.ck k.ds (j+1)=bV k.ck k.ds j+1:=by rw[bV,aG hu]
   have hl:=ih.len;refine ⟨?_,?_,?_,?_,?_,?_,?_,?_⟩;·rw[e1];exact ih.ok
   ·rw[e1];exact ih.ck
   ·rw[e2];have:=ih.le;omega
   ·rw[e1,e2,hl];omega
   ·intro i hi;rw[e1,e2,show bV k.ck k.ds j+1+i=bV k.ck k.ds j+(i+1) by omega,ih.rest (i+1) (by omega),show j+(i+1)=j+1+i by omega]
   ·intro i hi;rw[e2] at hi;by_cases hc:i<bV k.ck k.ds j
    ·obtain ⟨i',h1,h2⟩:=ih.done i hc;exact ⟨i',by omega,by rw[e1];exact h2⟩
    obtain rfl:i=bV k.ck k.ds j:=by omega
    exact ⟨j,by omega,by rw[e1];exact ih.rest 0 (by omega)⟩
   ·rw[e1];exact ih.sub
   rw[e1];have:=ih.UB;omega
structure Cz (k:aL):Prop where
 ok:jN (k.mem,k.ay)
 asc:∀ i j,i<j->j<k.ds.length->(au k.ds i).ino<(au k.ds j).ino
 Lo:∀ i,i<k.ds.length->bT (au k.ds i)=true
 gf:∀ i j m x,i<k.ds.length->j<k.ds.length->x ∈ eb m (au k.ds i)->¬ x ∈ (au k.ds j).fr
theorem aek {m:ByteArray} {d:ak} {x:Int} (h:x ∈ eb m d):∃ nm,(x,nm) ∈ dm d:=by
 unfold eb at h;split at h
 ·have h1:=(Cr _).mem_iff.1 h;have h2:=(sg.1 h1).1;unfold cP at h2;obtain ⟨e,he,rfl⟩:=na.1 h2;exact ⟨e.2,he⟩
 cases h
theorem ael {t:ByteArray} {d:ak} (hok:bT d=true) (hr:ar t d.ino=d.rc) (hj:dj t d.pg d.pg.length=d.aH):dm d=dw t d.ino:=by
 obtain ⟨hI,_,hZ,hsv,_⟩:=iO hok;obtain ⟨⟨g1,g2⟩,_,g3,_⟩:=mH hI;unfold dm dw eY;rw[hr,hZ,hj];rw[hZ] at g3;have:aO d.aH 0 (bX d.rc)=d.aH.extract 0 (bX d.rc).toNat:=by
  rw[aO,show cZ d.aH.size 0 (bX d.rc)=true from bF (by omega),aF rfl,Int.zero_add]
  rfl
 rw[this]
theorem aem {t:ByteArray} (hs:cv t=true) {i:Nat} (hi:i<8) {x:Int} {nm:ByteArray} (h:(x,nm) ∈ bK t i):x ∈ gB t:=by
 obtain ⟨hm,hn,_,htr⟩:=xF hs;obtain ⟨h0,h8⟩:=(sS t).ino i _ h;simp only at h0 h8;obtain ⟨y,rfl⟩:∃ y:Nat,x=(y:Int):=⟨x.toNat,by omega⟩;have h1:=uY.1 htr y (by omega) (by omega);unfold gB di;rw[aF hs,J3];refine ⟨y,by omega,rfl,fun hk=>?_⟩;unfold lg at h1;rw[cj] at h1;have h2:=h1.1;rw[hk] at h2;have hp:de (cr (bK t) 8) (y:Int) = -1:=by simpa using h2
 have ho:=(qP _ _).1 hp;have hmem:((i,((y:Int),nm)):Nat × aV) ∈ eJ (cr (bK t) 8) (y:Int):=sg.2 ⟨wT.2 ⟨hi,h⟩,by simp⟩;rw[ho] at hmem;cases hmem
theorem Ka {k:aL} (h:fj k=true):Cz k:=by
 have h':=h;unfold fj at h';simp only[cj] at h';obtain ⟨h1,-,-,h2,h3,h4,-,-,-⟩:=h';have hasc:=(SG k).1 h2;have hh:=iN.1 h4;refine ⟨nW h1,?_,?_,?_⟩
 ·intro i j hij hj;obtain ⟨n,rfl⟩:∃ n,j=i+1+n:=⟨j-(i+1),by omega⟩;clear hij;induction n with
  | zero=>
   have:=hasc (i+1) (by omega);simpa using this
  | succ n ih=>
   have h5:=ih (by omega);have:=hasc (i+1+(n+1)) (by omega);rcases this with h6 | h6;·omega
   ·rw[show i+1+(n+1)-1=i+1+n by omega] at h6;omega
 ·intro i hi;have:=hh i hi;unfold kg tW at this;simp only[cj] at this;exact this.1
 intro i j m x hi hj hx hf;have q1:=hh i hi;have q2:=hh j hj;unfold kg tW at q1 q2;simp only[cj,dC] at q1 q2;obtain ⟨a1,a2,a3,-⟩:=q1;obtain ⟨-,-,-,b4,-⟩:=q2;obtain ⟨nm,hnm⟩:=aek hx;rw[ael a1 a2 a3] at hnm;obtain ⟨-,-,-,-,⟨c1,c2⟩,-⟩:=iO a1;obtain ⟨y,hy⟩:∃ y:Nat,(au k.ds i).ino=(y:Int):=⟨(au k.ds i).ino.toNat,by omega⟩;rw[hy] at hnm;have:=aem h3 (i:=y) (by omega) hnm;exact (J4 _ _).1 b4 x hf this
def aY (k:aL):aL:=⟨k.mem,k.ay,k.ds,if k.ck<999999 then k.ck+1 else k.ck⟩
theorem SO {k:aL} (h:Cz k):Cz (aY k):=⟨h.ok,h.asc,h.Lo,h.gf⟩
def CA (k:aL):aL × List Int:=if fj k=true then br (aY k) k.ds.length else (k,[])
theorem Kb {k:aL} (h:jN (k.mem,k.ay)) {j i:Nat} (hj:j<=k.ds.length) (hi:i<(br k j).1.ds.length):∃ i',i'<k.ds.length/\au (br k j).1.ds i=au k.ds i':=by
 have r:=Ac k h j hj;have hl:=r.len;by_cases hc:i<bV k.ck k.ds j
 ·obtain ⟨i',h1,h2⟩:=r.done i hc;exact ⟨i',by omega,h2⟩
 refine ⟨j+(i-bV k.ck k.ds j),by omega,?_⟩;have:=r.rest (i-bV k.ck k.ds j) (by omega);rwa [show bV k.ck k.ds j+(i-bV k.ck k.ds j)=i by omega] at this
theorem SQ {k:aL} (h:Cz k) {j p:Nat} (hj:j<=k.ds.length) (hp:p<(br k j).1.ds.length):xL (br k j).1 (au (br k j).1.ds p)=oE (br k j).1 (au (br k j).1.ds p):=by refine aei fun x hx i hi=>?_;obtain ⟨i',h1,h2⟩:=Kb h.ok hj hp;obtain ⟨i'',h3,h4⟩:=Kb h.ok hj hi;rw[h2] at hx;rw[h4];exact h.gf i' i'' _ x h1 h3 hx
theorem Ke (ds:List ak):∀ n,n<=ds.length->ft ds n=((ds.take n).map fD).sum
 | 0,_=>by simp[ft]
 | n+1,hn=>by rw[ft,Ke ds n (by omega),kr (by omega),yN,List.sum_append,aaz _ _ (by omega)];simp
theorem Kg:∀ {xs ys:List ak},xs.Sublist ys->(xs.map fD).sum<=(ys.map fD).sum
 | _,_,.slnil=>aq _
 | _,_,.cons a h=>by have:=Kg h;simp;omega
 | _,_,.cons_cons a h=>by have:=Kg h;simp;omega
theorem aen {xs ys:List ak} (h:xs.Sublist ys):xs.length+ft xs xs.length<=ys.length+ft ys ys.length:=by have h1:=Kg h;have h2:=h.length_le;rw[Ke xs xs.length (aq _),Ke ys ys.length (aq _),ks,ks];omega
theorem aeo {k:aL} (h:Cz k) (hz:k.ds.length+ft k.ds k.ds.length<=1048576) {j:Nat} (hj:j<=k.ds.length):(br k j).1.ds.length+ft (br k j).1.ds (br k j).1.ds.length<=1048576:=bt (aen (Ac k h.ok j hj).sub) hz
theorem aep {mem:ByteArray} {d:ak} (h:fG mem d=true):bp d.rc=true:=by unfold fG at h;simp only[cj] at h;have h1:=h.1;unfold bT jo at h1;simp only[cj] at h1;exact h1.1.1
theorem SR (mem:ByteArray) (d:ak) (s:aA) (w:World) (hms:mem.size<=281474976710656) (hF:jX d s) (hpo:d.po.length<=1048576) (hfr:d.fr.length<=1048576) (hrs:d.rc.size<=281474976710656) (hss:d.aH.size<=281474976710656) (hR:dq w d s):Calls prog 167 #[.string mem,bH d s] w fun e w'=>∃ a c,e=.returned (.slice a (eb mem d).length c)/\bo w.heap.size w' a (eb mem d).length c (eb mem d)/\aj w w':=by
 have k0:=lf d s w 49;have l0:=aB w (.cells (dZ d s) 49);have c0:=k0.c0;have c1:=k0.c1;have c2:=k0.c2;have c3:=k0.c3;have c4:=k0.c4;have c5:=k0.c5;have c6:=k0.c6;have c7:=k0.c7;have HV:Hid (∀ W,aj w W->_):=fun W hb=>JH mem d s W hms hF hpo hfr (hR.below hb);have hel:(cP (dw mem d.ino)).length<=13:=by rw[tT];exact FN mem d.ino
 have hol:(cP (dm d)).length<=13:=by rw[tT];exact FM d
 cases hv:fG mem d with
 | false=>
  have hco:eb mem d=[]:=by rw[eb,hv];rfl
  rw[hco];rw[hv] at HV;clear hv hco hel hol hR hF;go_enter func167,ntmps167;go_wp2_with (go_at_call 205;refine (HV.out _ l0).mono ?_;rintro e w1 ⟨rfl,b1⟩);go_ret;exact ⟨_,_,rfl,Cp (fq w1 (aq _)) (bt l0.size b1.size),(l0.trans (b1.mono l0.size)).alloc (bt l0.size b1.size) _⟩
 | true=>
  obtain ⟨p1,p2,p3,p4⟩:=SC hv;have HN:Hid (∀ W,_):=fun W=>JF mem d s W p1 p2 p3;have HB:Hid (∀ W,_):=fun W=>Rp d s W hrs hss (aep hv);have hco:eb mem d=dF (db false (cP (dm d)) (cP (dw mem d.ino))):=by rw[eb,aF hv]
  rw[hco];rw[hv] at HV;obtain ⟨E,hE⟩:∃ E,cP (dw mem d.ino)=E:=⟨_,rfl⟩;obtain ⟨U,hU⟩:∃ U,cP (dm d)=U:=⟨_,rfl⟩;obtain ⟨bn,hbn⟩:∃ b,oB mem d.ino=b:=⟨_,rfl⟩;rw[hE,hbn] at HN;rw[hU] at HB hol;rw[hE] at hel;rw[hE,hU];have HO:Hid (∀ W a1 c1 c2 a2,aI W a1 U->aI W a2 E->_):=fun W a1 c1 c2 a2 r1 r2=>RT false a1 a2 c1 c2 U E W (by omega) (by omega) r1 r2;clear hv hco hE hU hbn p1 p2 p3 p4 hR hF;go_enter func167,ntmps167;go_wp2_with (first
   | (go_at_call 205;refine (HV.out _ l0).mono ?_;rintro e w1 ⟨rfl,b1⟩;have l1:=l0.trans (b1.mono l0.size);have k1:=k0.below b1;have d0:=k1.c0;have d1:=k1.c1;have d2:=k1.c2;have d3:=k1.c3;have d4:=k1.c4;have d5:=k1.c5;have d6:=k1.c6;have d7:=k1.c7)
   | (go_at_call 206;refine (HN.out _).mono ?_;rintro e w2 ⟨a2,n2,rfl,o2,b2⟩;have l2:=l1.trans (b2.mono l1.size);have k2:=k1.below b2;have e0:=k2.c0;have e1:=k2.c1;have e2:=k2.c2;have e3:=k2.c3;have e4:=k2.c4;have e5:=k2.c5;have e6:=k2.c6;have e7:=k2.c7)
   | (go_at_call 207;refine (HB.out _).mono ?_;rintro e w3 ⟨a3,n3,rfl,o3,b3⟩;have l3:=l2.trans (b3.mono l2.size);have r2:=o2.row.below b3)
   | (go_at_call 87;refine (HO.out _ _ _ _ _ o3.row r2).mono ?_;rintro e w4 ⟨a4,n4,rfl,o4,b4⟩))
  go_ret;exact ⟨a4,n4,rfl,Cp o4 l3.size,l3.trans (b4.mono l3.size)⟩
theorem aeq (mem:ByteArray) (d:ak) (s:aA) (w:World) (hms:mem.size<=281474976710656) (hF:jX d s) (hpo:d.po.length<=1048576) (hfr:d.fr.length<=1048576) (hrs:d.rc.size<=281474976710656) (hss:d.aH.size<=281474976710656) (hR:dq w d s):Calls prog 167 #[.string mem,bH d s] w fun e w'=>∃ a c,e=.returned (.slice a (eb mem d).length c)/\(eb mem d).length<=c/\aQ w.heap.size w' a (eb mem d)/\aj w w':=(SR mem d s w hms hF hpo hfr hrs hss hR).mono fun e w' ⟨a,c,he,hb,hw⟩=>⟨a,c,he,hb.fits,hb.own,hw⟩
section
structure Ad (w:World) (k:aL) (a:Option Addr) (c:Nat) (d:ak) (s:aA) (W:World):Prop where
 kb:av w.heap.size (cU k a c) W
 lb:fL (w.heap.size+1) d s W
 ah:aj w W
variable {w W W' : World} {k : aL} {a : Option Addr} {c : Nat} {d : ak} {s : aA}
theorem Ad.below (h:Ad w k a c d s W) (hb:aj W W'):Ad w k a c d s W':=⟨h.kb.below hb,h.lb.below hb,h.ah.trans (hb.mono h.ah.size)⟩
theorem aer (w:World) (k:aL) (a:Option Addr) (c:Nat) (d:ak) (s:aA):Ad w k a c d s ((w.alloc (cJ k a c)).alloc (vp d s)):=by
 have e:(w.alloc (cJ k a c)).heap.size=w.heap.size+1:=by simp
 have l:=lf d s (w.alloc (cJ k a c)) 49;rw[e] at l;exact ⟨(bu (cU k a c) w 28).alloc _,l,((aK _ _).alloc (aq _) _).alloc (by simp) _⟩
theorem vM {base b off j H:Nat} {Z:List Int} {a3:Option Addr} {z:Int} {x0 x1 x2 x3:Value} (h:Ad w k a c d s W) (ow:aQ base W a3 Z) (hab:a3=some ⟨b,off,none⟩) (hlt:j<Z.length) (ez:Z.getD j 0=z) (ib:av H [x0,x1,x2,x3] W):af W w.heap.size 0 (.string k.mem)/\af W w.heap.size 1 (.string k.ay)/\af W w.heap.size 2 (.slice a k.ds.length c)/\af W w.heap.size 3 (ad k.ck)/\af W b (off+j) (ad z)/\af W H 0 x0/\af W H 2 x2:=by obtain ⟨b',off',hab',_,hc⟩:=ow.row.get hlt;rw[hab] at hab';cases hab';exact ⟨h.kb.c0,h.kb.c1,h.kb.c2,h.kb.c3,by rw[<- ez];exact hc j hlt,ib.c0,ib.c2⟩
theorem aes (k:aL) (a:Option Addr) (c:Nat) (ss:Nat->aA) (d:ak) (s:aA) (w:World) (hm:k.mem.size=768) (hn:k.ds.length<=1048576) (ht:k.ds.length+ft k.ds k.ds.length<=1048576) (hF:jJ k.ds ss) (hR:aZ w a k.ds ss) (gC:jX d s) (hpo:d.po.length<=1048576) (hfr:d.fr.length<=1048576) (hrs:d.rc.size<=1048576) (hss:d.aH.size<=1048576) (hL:dq w d s) (hts:(bM k).size=768) (hgs:(eb k.mem d).length<=1048576):Calls prog 166 #[aU k a c,bH d s] w (aT (.bool (xL k d)) w):=by
 have t0:=aer w k a c d s;have HT:Hid (∀ W,aj w W->_):=fun W hb=>FD k a c ss W (by omega) hn hF (hR.below hb);have HV:Hid (∀ W,aj w W->_):=fun W hb=>JH k.mem d s W (by omega) gC hpo hfr (hL.below hb);have HG:Hid (∀ W,aj w W->_):=fun W hb=>aeq k.mem d s W (by omega) gC hpo hfr (by omega) (by omega) (hL.below hb);have iV:Hid (∀ x W,_):=fun x W=>vw (bM k) x W (by omega);have kq:Hid (∀ W,aj w W->_):=fun W hb=>JL k a c ss W hn ht (hR.below hb);have UY:(bD (fun d:ak=>d.ino :: d.fr) k.ds k.ds.length).length<=281474976710656:=by have:=qb (fun d:ak=>d.ino :: d.fr) k.ds 0 (fun d=>by unfold fD;simp only[dA];omega) k.ds.length;omega
 have HO:Hid (∀ x,Ab k x=!(bN (bD (fun d:ak=>d.ino :: d.fr) k.ds k.ds.length) x || (decide (mF (bM k) x=2) && decide (0<jV (bM k) x)))):=fun x=>rfl;have HM:Hid (xL k d=(fG k.mem d && bC (fun j=>Ab k ((eb k.mem d).getD j 0)) (eb k.mem d).length)):=rfl;unfold tV at kq;generalize xL k d=M at HM ⊢;generalize Ab k=ok at HO HM;generalize bD (fun d:ak=>d.ino :: d.fr) k.ds k.ds.length=I at kq HO UY;have qv:Hid (∀ (base:Nat) W a' c',aQ base W a' I->∀ x,_):=fun base W a' c' h x=>qL a' c' I x W UY h.row;generalize bM k=T at HT iV HO;generalize eb k.mem d=Z at HG HM hgs;have y0:=t0.lb.c0;have y1:=t0.lb.c1;have y2:=t0.lb.c2;have y3:=t0.lb.c3;have y4:=t0.lb.c4;have y5:=t0.lb.c5;have y6:=t0.lb.c6;have y7:=t0.lb.c7;have nM:=t0.kb.c0;have wm:=t0.kb.c1;have GH:=t0.kb.c2;have GO:=t0.kb.c3;obtain ⟨W0,hW0⟩:∃ W0,(w.alloc (cJ k a c)).alloc (vp d s)=W0:=⟨_,rfl⟩;have hBB:w.heap.size+1=(w.alloc (cJ k a c)).heap.size:=by simp
 rw[hW0] at t0 nM wm GH GO y0 y1 y2 y3 y4 y5 y6 y7;clear hR hL hF gC hBB;cases hv:fG k.mem d with
 | false=>
  rw[hv] at HV HM;have uz:Hid (M=false):=by rw[HM.out];rfl
  clear hv HM HG iV HO kq qv HT;go_enter func166,ntmps166;go_wp2_with (go_at_call 205;refine (HV.out _ t0.ah).mono ?_;rintro e w2 ⟨rfl,b2⟩);go_ret;exact ⟨bQ uz.out.symm,t0.ah.trans (b2.mono t0.ah.size)⟩
 | true=>
  rw[hv] at HV HM;have uz:Hid (M=bC (fun j=>ok (Z.getD j 0)) Z.length):=by rw[HM.out];rfl
  clear hv HM;go_enter func166,ntmps166;go_wp2_with (first
   | (go_at_call 205;refine (HV.out _ t0.ah).mono ?_;rintro e w1 ⟨rfl,b1⟩;have t1:=t0.below b1;clear nM wm GH GO y0 y1 y2 y3 y4 y5 y6 y7;have nM:=t1.kb.c0;have wm:=t1.kb.c1;have GH:=t1.kb.c2;have GO:=t1.kb.c3)
   | (go_at_call 24;refine (HT.out _ t1.ah).mono ?_;rintro e w2 ⟨rfl,b2⟩;have t2:=t1.below b2;clear nM wm GH GO;have nM:=t2.kb.c0;have y0:=t2.lb.c0;have y1:=t2.lb.c1;have y2:=t2.lb.c2;have y3:=t2.lb.c3;have y4:=t2.lb.c4;have y5:=t2.lb.c5;have y6:=t2.lb.c6;have y7:=t2.lb.c7)
   | (go_at_call 167;refine (HG.out _ t2.ah).mono ?_;rintro e w3 ⟨a3,c3,rfl,hc3,o3,b3⟩;have t3:=t2.below b3;clear nM y0 y1 y2 y3 y4 y5 y6 y7))
  go_loopw [7] (fun i w'=>∃ j:Nat,j<=Z.length/\i=ad j/\bC (fun j=>ok (Z.getD j 0)) j=true/\aQ w2.heap.size w' a3 Z/\Ad w k a c d s w') (fun i _=>Z.length-(intOf i).toNat);case atStart=>exact ⟨0,aS _,rfl,rfl,o3,t3⟩
  case round=>
   obtain ⟨j,hj,rfl,hok,ow,bx⟩:=hrel;clear t0 t1 t2 t3 o3 HT HV HG b1 b2 b3;by_cases hlt:j<Z.length
   ·obtain ⟨b,off,hab,_,hc⟩:=ow.row.get hlt;have x1:=hc j hlt;have hsx:bC (fun j=>ok (Z.getD j 0)) (j+1)=ok (Z.getD j 0):=by rw[IA,hok];rfl
    have hbd:ok (Z.getD j 0)=false->bC (fun j=>ok (Z.getD j 0)) Z.length=false:=fun h=>jD hlt h;obtain ⟨z,ez⟩:∃ z,Z.getD j 0=z:=⟨_,rfl⟩;rw[ez] at x1 hsx hbd;have Wq:Hid (bC (fun j=>ok (Z.getD j 0)) (j+1)=ok z):=hsx;have Vx:Hid (ok z=false->bC (fun j=>ok (Z.getD j 0)) Z.length=false):=hbd;have rE:Hid (Z.getD j 0=z):=ez;have wA:Hid (ok z=!(bN I z || (decide (mF T z=2) && decide (0<jV T z)))):=HO.out z;have AL:Hid (∀ (base:Nat) W a' c',aQ base W a' I->_):=fun base W a' c' h=>qv.out base W a' c' h z;have hld:=iV.out z wr;unfold zH at hld;generalize mF T z=K at hld wA;generalize jV T z=S at hld wA;generalize qH T z=O at hld;generalize mG T z=Y at hld;generalize qI T z=X at hld;generalize dY T z=B at hld;have e1:(0:Int)<=(j:Int):=by omega
    have e2:(j:Int)<(Z.length:Int):=by omega
    rw[hab];cases hh:bN I z with
    | true=>
     rw[hh] at wA AL;have HR:Hid (M=false):=by rw[uz.out];exact Vx.out (by rw[wA.out];rfl)
     have py:Hid (a3=some ⟨b,off,none⟩):=hab;clear hsx hbd hc hh HO iV hok qv;go_wp2_with (go_at_call 81;refine hld.mono ?_;rintro e w4 ⟨a4,c4,rfl,o4,hc4,l4⟩;have nb:=aB w4 (.cells (bj K O S a4 Y.length c4) 117);have dn:aj w4 (w4.alloc (.cells (bj K O S a4 Y.length c4) 117)).drew:=nb.drew;have b5:=(bx.below l4).below dn;have rQ:=(ow.below l4).below dn;have rD:=(bu [ad K,ad O,ad S,.slice a4 Y.length c4] w4 117).drew;have s5:=vM b5 rQ hab hlt rE.out rD);clear hab ez hld;refine et (S:=fun W=>af W w.heap.size 0 (.string k.mem)/\af W w.heap.size 1 (.string k.ay)/\af W w.heap.size 2 (.slice a k.ds.length c)/\af W w.heap.size 3 (ad k.ck)/\af W b (off+j) (ad z)/\af W w4.heap.size 0 (ad K)/\af W w4.heap.size 2 (ad S)) (by kernel_rfl) ?_;refine aC 0 (aU k a c) s5 ?_;refine aE 2 (.slice (some ⟨b,off,none⟩) Z.length c3) s5 ?_;refine aE 3 (ad j) s5 ?_;refine aC 4 (aD b (off+j)) s5 ?_;refine aC 5 (ad z) s5 ?_;refine fY (i:=1) (by kernel_rfl) rfl (by rfl) (.tmp 40) _ rfl (aU k a c) (by rfl) (bh func30 (by kernel_rfl) rfl) ((kq.out _ b5.ah).mono ?_);rintro e w6 ⟨a6,c6,rfl,o6,hc6,l6⟩;have b6:=b5.below l6;have uF:=rQ.below l6;have xU:=rD.below l6;have s6:=vM b6 uF py.out hlt rE.out xU;refine ⟨_,rfl,s6,?_⟩;simp only[ao,Act.put,Nat.reduceAdd];refine jm (i:=6) (by kernel_rfl) rfl (by rfl) (.tmp 41) (.tmp 45) _ rfl (.slice a6 I.length c6) (ad z) (by rfl) (by rfl) (bh func70 (by kernel_rfl) rfl) ((AL.out _ _ _ _ o6).mono ?_);rintro e w7 ⟨rfl,hw7⟩;subst w7;refine ⟨_,rfl,s6,?_⟩;simp only[ao,Act.put,Nat.reduceAdd];refine aE 7 (.bool true) s6 ?_;refine aM 8 s6 ?_;refine aM 9 s6 ?_;refine aM 10 s6 ?_;refine aM 11 s6 ?_;refine aM 12 s6 ?_;refine aM 13 s6 ?_;refine aM 14 s6 ?_;refine aM 15 s6 ?_;refine aE 16 (.bool true) s6 ?_;refine dV (by kernel_rfl) ?_ _;go_wp2;go_ret;exact ⟨bQ HR.out.symm,b6.ah⟩
    | false=>
     rw[hh] at wA AL;by_cases hK:K=2
     ·subst hK;by_cases hS:0<S
      ·have HR:Hid (M=false):=by rw[uz.out];exact Vx.out (by rw[wA.out,bF hS];rfl)
       have py:Hid (a3=some ⟨b,off,none⟩):=hab;clear hsx hbd hc hh HO iV hok qv;go_wp2_with (go_at_call 81;refine hld.mono ?_;rintro e w4 ⟨a4,c4,rfl,o4,hc4,l4⟩;have nb:=aB w4 (.cells (bj 2 O S a4 Y.length c4) 117);have dn:aj w4 (w4.alloc (.cells (bj 2 O S a4 Y.length c4) 117)).drew:=nb.drew;have b5:=(bx.below l4).below dn;have rQ:=(ow.below l4).below dn;have rD:=(bu [ad 2,ad O,ad S,.slice a4 Y.length c4] w4 117).drew;have s5:=vM b5 rQ hab hlt rE.out rD);clear hab ez hld;refine et (S:=fun W=>af W w.heap.size 0 (.string k.mem)/\af W w.heap.size 1 (.string k.ay)/\af W w.heap.size 2 (.slice a k.ds.length c)/\af W w.heap.size 3 (ad k.ck)/\af W b (off+j) (ad z)/\af W w4.heap.size 0 (ad 2)/\af W w4.heap.size 2 (ad S)) (by kernel_rfl) ?_;refine aC 0 (aU k a c) s5 ?_;refine aE 2 (.slice (some ⟨b,off,none⟩) Z.length c3) s5 ?_;refine aE 3 (ad j) s5 ?_;refine aC 4 (aD b (off+j)) s5 ?_;refine aC 5 (ad z) s5 ?_;refine fY (i:=1) (by kernel_rfl) rfl (by rfl) (.tmp 40) _ rfl (aU k a c) (by rfl) (bh func30 (by kernel_rfl) rfl) ((kq.out _ b5.ah).mono ?_);rintro e w6 ⟨a6,c6,rfl,o6,hc6,l6⟩;have b6:=b5.below l6;have uF:=rQ.below l6;have xU:=rD.below l6;have s6:=vM b6 uF py.out hlt rE.out xU;refine ⟨_,rfl,s6,?_⟩;simp only[ao,Act.put,Nat.reduceAdd];refine jm (i:=6) (by kernel_rfl) rfl (by rfl) (.tmp 41) (.tmp 45) _ rfl (.slice a6 I.length c6) (ad z) (by rfl) (by rfl) (bh func70 (by kernel_rfl) rfl) ((AL.out _ _ _ _ o6).mono ?_);rintro e w7 ⟨rfl,hw7⟩;subst w7;refine ⟨_,rfl,s6,?_⟩;simp only[ao,Act.put,Nat.reduceAdd];refine aE 7 (.bool false) s6 ?_;refine aC 8 (aD w4.heap.size 0) s6 ?_;refine aC 9 (ad 2) s6 ?_;refine aE 10 (.bool true) s6 ?_;refine aE 11 (.bool true) s6 ?_;refine aC 12 (aD w4.heap.size 2) s6 ?_;refine aC 13 (ad S) s6 ?_;refine aC 14 (.bool true) s6 ?_;refine aE 15 (.bool true) s6 ?_;refine aE 16 (.bool true) s6 ?_;refine dV (by kernel_rfl) ?_ _;go_wp2;go_ret;exact ⟨bQ HR.out.symm,b6.ah⟩
      have HR:Hid (bC (fun j=>ok (Z.getD j 0)) (j+1)=true):=by rw[Wq.out,wA.out,bq hS];rfl
      have hS':S<=0:=by omega
      have py:Hid (a3=some ⟨b,off,none⟩):=hab;clear hsx hbd hc hh HO iV hok qv;go_wp2_with (go_at_call 81;refine hld.mono ?_;rintro e w4 ⟨a4,c4,rfl,o4,hc4,l4⟩;have nb:=aB w4 (.cells (bj 2 O S a4 Y.length c4) 117);have dn:aj w4 (w4.alloc (.cells (bj 2 O S a4 Y.length c4) 117)).drew:=nb.drew;have b5:=(bx.below l4).below dn;have rQ:=(ow.below l4).below dn;have rD:=(bu [ad 2,ad O,ad S,.slice a4 Y.length c4] w4 117).drew;have s5:=vM b5 rQ hab hlt rE.out rD);clear hab ez hld;refine et (S:=fun W=>af W w.heap.size 0 (.string k.mem)/\af W w.heap.size 1 (.string k.ay)/\af W w.heap.size 2 (.slice a k.ds.length c)/\af W w.heap.size 3 (ad k.ck)/\af W b (off+j) (ad z)/\af W w4.heap.size 0 (ad 2)/\af W w4.heap.size 2 (ad S)) (by kernel_rfl) ?_;refine aC 0 (aU k a c) s5 ?_;refine aE 2 (.slice (some ⟨b,off,none⟩) Z.length c3) s5 ?_;refine aE 3 (ad j) s5 ?_;refine aC 4 (aD b (off+j)) s5 ?_;refine aC 5 (ad z) s5 ?_;refine fY (i:=1) (by kernel_rfl) rfl (by rfl) (.tmp 40) _ rfl (aU k a c) (by rfl) (bh func30 (by kernel_rfl) rfl) ((kq.out _ b5.ah).mono ?_);rintro e w6 ⟨a6,c6,rfl,o6,hc6,l6⟩;have b6:=b5.below l6;have uF:=rQ.below l6;have xU:=rD.below l6;have s6:=vM b6 uF py.out hlt rE.out xU;refine ⟨_,rfl,s6,?_⟩;simp only[ao,Act.put,Nat.reduceAdd];refine jm (i:=6) (by kernel_rfl) rfl (by rfl) (.tmp 41) (.tmp 45) _ rfl (.slice a6 I.length c6) (ad z) (by rfl) (by rfl) (bh func70 (by kernel_rfl) rfl) ((AL.out _ _ _ _ o6).mono ?_);rintro e w7 ⟨rfl,hw7⟩;subst w7;refine ⟨_,rfl,s6,?_⟩;simp only[ao,Act.put,Nat.reduceAdd];refine aE 7 (.bool false) s6 ?_;refine aC 8 (aD w4.heap.size 0) s6 ?_;refine aC 9 (ad 2) s6 ?_;refine aE 10 (.bool true) s6 ?_;refine aE 11 (.bool true) s6 ?_;refine aC 12 (aD w4.heap.size 2) s6 ?_;refine aC 13 (ad S) s6 ?_;refine aC 14 (.bool false) s6 ?_;refine aE 15 (.bool false) s6 ?_;refine aE 16 (.bool false) s6 ?_;refine dV (by kernel_rfl) ?_ _;go_wp2;go_roundw;case rel=>exact ⟨j+1,by omega,by go_num,HR.out,by rw[<- py.out];exact uF,b6⟩
      case measure=>simp[intOf];omega
     ·have HR:Hid (bC (fun j=>ok (Z.getD j 0)) (j+1)=true):=by rw[Wq.out,wA.out,bq hK];rfl
      have hKb:(K == 2)=false:=by simpa using hK
      have py:Hid (a3=some ⟨b,off,none⟩):=hab;clear hsx hbd hc hh HO iV hok qv;go_wp2_with (go_at_call 81;refine hld.mono ?_;rintro e w4 ⟨a4,c4,rfl,o4,hc4,l4⟩;have nb:=aB w4 (.cells (bj K O S a4 Y.length c4) 117);have dn:aj w4 (w4.alloc (.cells (bj K O S a4 Y.length c4) 117)).drew:=nb.drew;have b5:=(bx.below l4).below dn;have rQ:=(ow.below l4).below dn;have rD:=(bu [ad K,ad O,ad S,.slice a4 Y.length c4] w4 117).drew;have s5:=vM b5 rQ hab hlt rE.out rD);clear hab ez hld;refine et (S:=fun W=>af W w.heap.size 0 (.string k.mem)/\af W w.heap.size 1 (.string k.ay)/\af W w.heap.size 2 (.slice a k.ds.length c)/\af W w.heap.size 3 (ad k.ck)/\af W b (off+j) (ad z)/\af W w4.heap.size 0 (ad K)/\af W w4.heap.size 2 (ad S)) (by kernel_rfl) ?_;refine aC 0 (aU k a c) s5 ?_;refine aE 2 (.slice (some ⟨b,off,none⟩) Z.length c3) s5 ?_;refine aE 3 (ad j) s5 ?_;refine aC 4 (aD b (off+j)) s5 ?_;refine aC 5 (ad z) s5 ?_;refine fY (i:=1) (by kernel_rfl) rfl (by rfl) (.tmp 40) _ rfl (aU k a c) (by rfl) (bh func30 (by kernel_rfl) rfl) ((kq.out _ b5.ah).mono ?_);rintro e w6 ⟨a6,c6,rfl,o6,hc6,l6⟩;have b6:=b5.below l6;have uF:=rQ.below l6;have xU:=rD.below l6;have s6:=vM b6 uF py.out hlt rE.out xU;refine ⟨_,rfl,s6,?_⟩;simp only[ao,Act.put,Nat.reduceAdd];refine jm (i:=6) (by kernel_rfl) rfl (by rfl) (.tmp 41) (.tmp 45) _ rfl (.slice a6 I.length c6) (ad z) (by rfl) (by rfl) (bh func70 (by kernel_rfl) rfl) ((AL.out _ _ _ _ o6).mono ?_);rintro e w7 ⟨rfl,hw7⟩;subst w7;refine ⟨_,rfl,s6,?_⟩;simp only[ao,Act.put,Nat.reduceAdd];refine aE 7 (.bool false) s6 ?_;refine aC 8 (aD w4.heap.size 0) s6 ?_;refine aC 9 (ad K) s6 ?_;refine aC 10 (.bool false) s6 ?_;refine aE 11 (.bool false) s6 ?_;refine aM 12 s6 ?_;refine aM 13 s6 ?_;refine aM 14 s6 ?_;refine aE 15 (.bool false) s6 ?_;refine aE 16 (.bool false) s6 ?_;refine dV (by kernel_rfl) ?_ _;go_wp2;go_roundw;case rel=>exact ⟨j+1,by omega,by go_num,HR.out,by rw[<- py.out];exact uF,b6⟩
      case measure=>simp[intOf];omega
   obtain rfl:j=Z.length:=by omega
   have HR:Hid (M=true):=by rw[uz.out];exact hok
   have hbel:=bx.ah;clear hok ow HO iV kq qv bx;go_wp2;go_ret;exact ⟨bQ HR.out.symm,hbel⟩
end
theorem SS:(bB 16).size=16:=by decide +kernel
end Go.Proofs.YtidmmopnkjbjoaaGreatDoor
