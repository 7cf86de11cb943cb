/- Joined texts. -/
import Derived.Test.YtgpfmgaidbjcpaaGreatDoorJhZD
import Derived.Test.YtgpfmgaidbjcpaaGreatDoorJhZE
import Derived.Test.YtgpfmgaidbjcpaaGreatDoorJhZC
set_option linter.unusedVariables false
set_option linter.unusedSimpArgs false
set_option maxRecDepth 10000
set_option maxHeartbeats 16000000
namespace Go.Proofs.YtgpfmgaidbjcpaaGreatDoor
open ChangeShapes WideShapes ChangeAt RowKit
open Go.Proofs.Tryz
section
set_option maxRecDepth 100000
theorem ahJ (a b:List UInt8) (i n:Nat) (ha:a.length=768) (hb:b.length=768) (hn:1<=n) (h:i+n<=768):fC ⟨⟨a⟩⟩ ⟨⟨b⟩⟩ (i:Int) (n:Int)=⟨⟨b.take (i / 8*8)++((a.take (((i+n-1) / 8+1)*8)).drop (i / 8*8)++b.drop (((i+n-1) / 8+1)*8))⟩⟩:=by
 have sa:(⟨⟨a⟩⟩:ByteArray).size=768:=ha;have sb:(⟨⟨b⟩⟩:ByteArray).size=768:=hb;have hg:oR ⟨⟨a⟩⟩ ⟨⟨b⟩⟩ (i:Int) (n:Int)=true:=by simp[oR,dY,sa,sb,dq];omega
 rw[fC,aN hg];apply kD;apply Array.ext';show dZ a b _=_
 apply wL;intro j;have e1:((i:Int)).toNat=i:=by omega
 have e2:((n:Int)).toNat=n:=by omega
 rw[e1,e2];obtain ⟨p,hp⟩:∃ p,i / 8=p:=⟨_,rfl⟩;obtain ⟨q,hq⟩:∃ q,(i+n-1) / 8=q:=⟨_,rfl⟩;rw[hp,hq];have hpq:p<=q:=by omega
 have hq2:q<96:=by omega
 by_cases hj:j<768
 ·rw[mU _ _ _ _ hj];by_cases h1:j<p*8
  ·rw[nD (by simp;omega),yV h1,aM (by simp[qe];omega)];simp[List.getD,gM (show j<b.length by omega)]
  rw[nF (by simp;omega)];by_cases h2:j<(q+1)*8
  ·rw[nD (by simp;omega),tJ,yV (by simp;omega),aN (by simp[qe];omega)];have e:p*8+(j-(b.take (p*8)).length)=j:=by simp;omega
   rw[e];simp[List.getD,gM (show j<a.length by omega)]
  rw[nF (by simp;omega),tJ,aM (by simp[qe];omega)];have e:(q+1)*8+(j-(b.take (p*8)).length-((a.take ((q+1)*8)).drop (p*8)).length)=j:=by simp;omega
  rw[e];simp[List.getD,gM (show j<b.length by omega)]
 rw[lL (by rw[ki];omega),lL (by simp;omega)]
end
section
set_option maxRecDepth 100000
def CX (a:List UInt8) (i:Nat) (t:List UInt8):List UInt8:=a.take i++(t++a.drop (i+t.length))
def ahK (a b:List UInt8) (i n:Nat):List UInt8:=b.take (i / 8*8)++((a.take (((i+n-1) / 8+1)*8)).drop (i / 8*8)++b.drop (((i+n-1) / 8+1)*8))
def Gr (A B T A' B':List (Nat × List UInt8)) (i:Nat):Bool:=decide ((eL A).length=768) && decide ((eL B).length=768) && decide (1<=(eL T).length) && decide (i+(eL T).length<=768) && decide (CX (eL A) i (eL T)=eL A') && decide (ahK (eL A') (eL B) i (eL T).length=eL B')
theorem UE (A B T A' B':List (Nat × List UInt8)) (a b t:ByteArray) (x n:Int) (i:Nat) (ha:a=ak A) (hb:b=ak B) (ht:t=ak T) (hx:x=i) (hn:n=((eL T).length:Int)) (h:Gr A B T A' B' i=true):dV a b x t=ak A'/\fC (dV a b x t) b x n=ak B':=by
 simp only[Gr,ca,dp] at h;obtain ⟨⟨⟨⟨⟨h1,h2⟩,h3⟩,h4⟩,h5⟩,h6⟩:=h;have sa:a.size=768:=by rw[ha];exact h1
 have sb:b.size=768:=by rw[hb];exact h2
 have e:dV a b x t=ak A':=by rw[dV,aN (by simp[dY,sa,sb]),ha,ht,hx];exact K1 _ _ _ i (by omega) h5
 refine ⟨e,?_⟩;have h7:(eL A').length=768:=by rw[<- h5,CX];simp;omega
 rw[e,hb,hx,hn,ahJ _ _ i _ h7 h2 h3 h4];exact iw (fun l=>(⟨⟨l⟩⟩:ByteArray)) h6
theorem Al (A B A' B':List (Nat × List UInt8)) (p:ByteArray × ByteArray) (z:Int) (i:Nat) (hp:p=(ak A,ak B)) (hi:aZ z=i) (h:Gr A B [(16,[])] A' B' i=true):mY p z=(ak A',ak B'):=by obtain ⟨h1,h2⟩:=UE A B [(16,[])] A' B' p.1 p.2 (bG 16) (aZ z) 16 i (by rw[hp]) (by rw[hp]) (by kernel_rfl) hi (by kernel_rfl) h;exact Prod.ext h1 h2
theorem Gs (A B A' B':List (Nat × List UInt8)) (p:ByteArray × ByteArray) (z:Int) (i:Nat) (hp:p=(ak A,ak B)) (hi:z*32=i) (h:Gr A B [(32,[])] A' B' i=true):Ag p z=(ak A',ak B'):=by obtain ⟨h1,h2⟩:=UE A B [(32,[])] A' B' p.1 p.2 (bG 32) (z*32) 32 i (by rw[hp]) (by rw[hp]) (by kernel_rfl) hi (by kernel_rfl) h;exact Prod.ext h1 h2
end
section
set_option maxRecDepth 100000
abbrev aE:List (Nat × List UInt8):=[(0,[84,78,82,49]),(28,[2,9,32]),(1,[5]),(11,[1,1,40]),(1,[7,6]),(10,[2,2]),(94,[1,1,97]),(13,[2,1,98]),(13,[115,111,109,101,32,119,111,114,100,115,32,111,102,32,97,32,102,105,108,101,32,116,104,97,116,32,119,97,115,32,104,101,114,101]),(542,[])]
theorem vL:gW (ak aE)=[8,9,10,11]:=by decide +kernel
theorem Gt:iG [8,9,10,11] (ak aE,ak aE) 4=(ak aE,ak aE):=Gs aE aE aE aE _ _ 352 (Gs aE aE aE aE _ _ 320 (Gs aE aE aE aE _ _ 288 (Gs aE aE aE aE _ _ 256 rfl rfl (by decide +kernel)) rfl (by decide +kernel)) rfl (by decide +kernel)) rfl (by decide +kernel)
theorem UF:kU (ak aE) (bO (ak aE) 0)=[3,4]:=by decide +kernel
theorem ahL:cQ [3,4] (ak aE,ak aE) 2=(ak aE,ak aE):=Al aE aE aE aE _ _ 96 (Al aE aE aE aE _ _ 80 (rfl) rfl (by decide +kernel)) rfl (by decide +kernel)
theorem ahM:aj (ak aE) 0=ak [(0,[2,9,32]),(1,[5]),(11,[])]:=by decide +kernel
theorem ahN:bV (ak aE) 0=[5]:=by decide +kernel
theorem ahO:di (ak aE) [5] 1=ak [(0,[1,1,97]),(13,[2,1,98]),(13,[])]:=by decide +kernel
theorem K8:gX cT 1 0=⟨0,1,50,ak [(0,[2,9,32]),(1,[5]),(11,[])],[5],ak [(0,[1,1,97]),(13,[2,1,98]),(13,[])],[8,9,10,11],[3,4]⟩:=by rw[gX,qp,ahM,ahN,UF,vL,show ([5]:List Int).length=1 from rfl,ahO]
theorem UG:jh cT 1 0=⟨ak aE,ak aE,[gX cT 1 0],0⟩:=by rw[jh,qp,vL,UF,show ([8,9,10,11]:List Int).length=4 from rfl,show ([3,4]:List Int).length=2 from rfl,Gt,ahL]
theorem UH:kU (ak aE) (bO (ak aE) 0)=[3,4]:=by decide +kernel
theorem ahP:cQ [3,4] (ak aE,ak aE) 2=(ak aE,ak aE):=Al aE aE aE aE _ _ 96 (Al aE aE aE aE _ _ 80 (rfl) rfl (by decide +kernel)) rfl (by decide +kernel)
theorem ahQ:aj (ak aE) 0=ak [(0,[2,9,32]),(1,[5]),(11,[])]:=by decide +kernel
theorem ahR:bV (ak aE) 0=[5]:=by decide +kernel
theorem ahS:di (ak aE) [5] 1=ak [(0,[1,1,97]),(13,[2,1,98]),(13,[])]:=by decide +kernel
theorem K9:gX cT 2 0=⟨0,2,50,ak [(0,[2,9,32]),(1,[5]),(11,[])],[5],ak [(0,[1,1,97]),(13,[2,1,98]),(13,[])],[8,9,10,11],[3,4]⟩:=by rw[gX,qp,ahQ,ahR,UH,vL,show ([5]:List Int).length=1 from rfl,ahS]
theorem UI:jh cT 2 0=⟨ak aE,ak aE,[gX cT 2 0],0⟩:=by rw[jh,qp,vL,UH,show ([8,9,10,11]:List Int).length=4 from rfl,show ([3,4]:List Int).length=2 from rfl,Gt,ahP]
theorem UJ:kU (ak aE) (bO (ak aE) 1)=[]:=by decide +kernel
theorem ahT:cQ [] (ak aE,ak aE) 0=(ak aE,ak aE):=rfl
theorem ahU:aj (ak aE) 1=ak [(0,[1,1,40]),(1,[7,6]),(10,[])]:=by decide +kernel
theorem ahV:bV (ak aE) 1=[7,6]:=by decide +kernel
theorem ahW:di (ak aE) [7,6] 2=ak [(0,[114,101]),(30,[115,111,109,101,32,119,111,114,100,115,32,111,102,32,97,32,102,105,108,101,32,116,104,97,116,32,119,97,115,32,104,101])]:=by decide +kernel
theorem La:gX cT 1 1=⟨1,1,50,ak [(0,[1,1,40]),(1,[7,6]),(10,[])],[7,6],ak [(0,[114,101]),(30,[115,111,109,101,32,119,111,114,100,115,32,111,102,32,97,32,102,105,108,101,32,116,104,97,116,32,119,97,115,32,104,101])],[8,9,10,11],[]⟩:=by rw[gX,qp,ahU,ahV,UJ,vL,show ([7,6]:List Int).length=2 from rfl,ahW]
theorem UK:jh cT 1 1=⟨ak aE,ak aE,[gX cT 1 1],0⟩:=by rw[jh,qp,vL,UJ,show ([8,9,10,11]:List Int).length=4 from rfl,show ([]:List Int).length=0 from rfl,Gt,ahT]
theorem UL:kU (ak aE) (bO (ak aE) 2)=[3,4]:=by decide +kernel
theorem ahX:cQ [3,4] (ak aE,ak aE) 2=(ak aE,ak aE):=Al aE aE aE aE _ _ 96 (Al aE aE aE aE _ _ 80 (rfl) rfl (by decide +kernel)) rfl (by decide +kernel)
theorem ahY:aj (ak aE) 2=ak [(0,[2,2]),(14,[])]:=by decide +kernel
theorem ahZ:bV (ak aE) 2=[]:=by decide +kernel
theorem ah0:di (ak aE) [] 0=ak []:=by decide +kernel
theorem Lb:gX cT 2 2=⟨2,2,50,ak [(0,[2,2]),(14,[])],[],ak [],[8,9,10,11],[3,4]⟩:=by rw[gX,qp,ahY,ahZ,UL,vL,show ([]:List Int).length=0 from rfl,ah0]
theorem UM:jh cT 2 2=⟨ak aE,ak aE,[gX cT 2 2],0⟩:=by rw[jh,qp,vL,UL,show ([8,9,10,11]:List Int).length=4 from rfl,show ([3,4]:List Int).length=2 from rfl,Gt,ahX]
end
section
set_option maxRecDepth 100000
theorem ah1 (la:List UInt8) (p:Nat->Bool) (ha:la.length=768):dZ la la p=la:=by
 apply wL;intro j;by_cases hj:j<768
 ·rw[mU _ _ _ _ hj];simp[List.getD,gM (show j<la.length by omega)]
 rw[lL (by rw[ki];omega),lL (by omega)]
theorem ah2 (a:ByteArray) (h:a.size=768) (r:bJ):ru a a r=a:=by apply kD;apply Array.ext';exact ah1 _ _ (by rw[<- dX];exact h)
theorem Le (a:ByteArray) (h:a.size=768) (rs:List bJ):∀ n,jg a a rs n=a
 | 0=>rfl
 | n+1=>by rw[jg,Le a h rs n,ah2 a h]
theorem UN (a:ByteArray) (h:a.size=768) (ds:List ai):∀ n,nX a a ds n=a
 | 0=>rfl
 | n+1=>by rw[nX,UN a h ds n,Le a h]
theorem CY (m t:ByteArray) (ds:List ai) (ck:Int) (hm:m.size=768) (ht:cD ⟨m,m,ds,ck⟩=t) (h1:cq t=true) (h2:bX (fun j=>tV t (cj t) (dM t) (aJ ds j)) ds.length=true) (h3:(!decide (ck<0) && (!decide (999999<ck) && (ff (fM ds) && (gV (fM ds++kQ ds) && gV (rv ds)))))=true):fj ⟨m,m,ds,ck⟩=true:=by
 simp only[ca] at h3;obtain ⟨a1,a2,a3,a4,a5⟩:=h3;have e:mE ⟨m,m,ds,ck⟩=fun j=>tV t (cj t) (dM t) (aJ ds j):=by
  funext j
  rw[mE,ht]
 rw[fj,ht,e,h1,h2,a1,a2,a3,a4,a5,CH,UN m hm];simp[dY,hm]
end
section
set_option maxRecDepth 100000
def kz (Z:List aB):Bool:=Z.all fun p=>decide (0<=p.1/\1<=p.2.size/\p.1+(p.2.size:Int)<=768)
theorem CZ {Z:List aB} (h:kz Z=true) {j:Nat} (hj:j<Z.length):0<=(bl Z j).1/\1<=(bl Z j).2.size/\(bl Z j).1+((bl Z j).2.size:Int)<=768:=by rw[mQ _ _ hj];exact yT (oz.1 h _ (ny hj))
theorem ah3 {a t:ByteArray} {i:Int} (ha:a.size=768) (h0:0<=i) (h1:1<=t.size) (h2:i+(t.size:Int)<=768):fC (bs a i t) a i (t.size:Int)=bs a i t:=by
 have hs:(bs a i t).size=768:=by rw[oP,ha]
 have hg:oR (bs a i t) a i (t.size:Int)=true:=by have hl:dq 768 i (t.size:Int)=true:=bK (by omega);simp only[oR,dY,hs,ha,hl,bA (show ¬ (t.size:Int)=0 by omega)];rfl
 rw[fC,aN hg];refine ahk ?_ hs fun j hj=>?_;·exact (dX _).trans (ki _ _ _)
 have e:=mU (bs a i t).data.toList a.data.toList (qe (i.toNat / 8) ((i.toNat+((t.size:Int)).toNat-1) / 8)) j hj;have e2:eO ⟨(dZ (bs a i t).data.toList a.data.toList (qe (i.toNat / 8) ((i.toNat+((t.size:Int)).toNat-1) / 8))).toArray⟩ j=if qe (i.toNat / 8) ((i.toNat+((t.size:Int)).toNat-1) / 8) (j / 8)=true then eO (bs a i t) j else eO a j:=by
  unfold eO;show List.getD (dZ _ _ _) j 0=_
  rw[jl,e];rfl
 rw[e2];split;·rfl
 rename_i hn;apply Gn
 rw[Aj,aM];rintro ⟨-,x1,x2⟩;exact hn (bK (by omega))
theorem Lg {a:ByteArray} (ha:a.size=768) {e:aB} (h0:0<=e.1) (h1:1<=e.2.size) (h2:e.1+(e.2.size:Int)<=768):dV a a e.1 e.2=bs a e.1 e.2/\fC (dV a a e.1 e.2) a e.1 (e.2.size:Int)=bs a e.1 e.2:=by
 have e1:dV a a e.1 e.2=bs a e.1 e.2:=by rw[dV,aN (by simp[dY,ha])]
 exact ⟨e1,by rw[e1];exact ah3 ha h0 h1 h2⟩
theorem C1 {Z:List aB} (a:ByteArray) {j:Nat} (hj:j<Z.length):cF a (Z.take (j+1))=bs (cF a (Z.take j)) (bl Z j).1 (bl Z j).2:=by rw[mq hj,Ak,mQ _ _ hj];rfl
theorem Lh {a:ByteArray} (ha:a.size=768) (ds:List ai) (ck:Int) {Z:List aB} (hZ:kz Z=true):∀ j,j<=Z.length->fH ⟨a,a,ds,ck⟩ Z j=⟨cF a (Z.take j),cF a (Z.take j),ds,ck⟩
 | 0,_=>rfl
 | j+1,h=>by obtain ⟨h0,h1,h2⟩:=CZ hZ (show j<Z.length by omega);obtain ⟨e1,e2⟩:=Lg (a:=cF a (Z.take j)) (by rw[qm,ha]) h0 h1 h2;rw[fH,Lh ha ds ck hZ j (by omega),T9,dB,bu,C1 a (by omega)];rw[e1] at e2;simp only[e1,e2]
abbrev jj (z:Int):aB:=(aZ z,bG 16)
abbrev oa (z:Int):aB:=(z*32,bG 32)
theorem Gu (f:Int->aB) {zs:List Int} {j:Nat} (hj:j<zs.length):bl (zs.map f) j=f (zs.getD j 0):=by rw[mQ _ _ (by simpa using hj),List.getElem_map,jl,gM hj];rfl
theorem Li {a:ByteArray} (ha:a.size=768) {zs:List Int} (hZ:kz (zs.map jj)=true):∀ j,j<=zs.length->cQ zs (a,a) j=(cF a ((zs.map jj).take j),cF a ((zs.map jj).take j))
 | 0,_=>rfl
 | j+1,h=>by
  have hj:j<(zs.map jj).length:=by simp;omega
  obtain ⟨h0,h1,h2⟩:=CZ hZ hj;obtain ⟨e1,e2⟩:=Lg (a:=cF a ((zs.map jj).take j)) (by rw[qm,ha]) h0 h1 h2;rw[Gu jj (by omega)] at e1 e2;rw[cQ,Li ha hZ j (by omega),C1 a hj,Gu jj (by omega)];exact Prod.ext e1 e2
theorem UO {a:ByteArray} (ha:a.size=768) {zs:List Int} (hZ:kz (zs.map oa)=true):∀ j,j<=zs.length->iG zs (a,a) j=(cF a ((zs.map oa).take j),cF a ((zs.map oa).take j))
 | 0,_=>rfl
 | j+1,h=>by
  have hj:j<(zs.map oa).length:=by simp;omega
  obtain ⟨h0,h1,h2⟩:=CZ hZ hj;obtain ⟨e1,e2⟩:=Lg (a:=cF a ((zs.map oa).take j)) (by rw[qm,ha]) h0 h1 h2;rw[Gu oa (by omega)] at e1 e2;rw[iG,UO ha hZ j (by omega),C1 a hj,Gu oa (by omega)];exact Prod.ext e1 e2
theorem ah4 {a:ByteArray} (ha:a.size=768) {d:ai} {ck:Int} (hm:mZ ⟨a,a,[d],ck⟩ d=true) {zs:List Int} (hz:eJ a d++fG false d.fr (gD a d)=zs) (hZ:kz (zs.map jj)=true):qj ⟨a,a,[d],ck⟩ 0=⟨cF a (zs.map jj),cF a (zs.map jj),[],ck⟩:=by
 have e:aJ [d] 0=d:=rfl;have e2:na ⟨a,a,[d],ck⟩ d true=(cF a (zs.map jj),cF a (zs.map jj)):=by have t:=Li ha hZ zs.length (av _);rw[ox (by simp)] at t;rw[na,aN rfl];simp only[hz,t];rw[Le _ (by rw[qm,ha])]
 show bz.mk (na ⟨a,a,[d],ck⟩ d (mZ ⟨a,a,[d],ck⟩ d)).1 (na ⟨a,a,[d],ck⟩ d (mZ ⟨a,a,[d],ck⟩ d)).2 [] ck=_
 rw[hm,e2]
theorem ah5 {a:ByteArray} (ha:a.size=768) {ck cl ino:Int} {po fr:List Int} (hp:gW a=po) (hf:oT a=fr) (h1:kz (po.map oa)=true) (h2:kz (fr.map jj)=true):lV a a ck cl ino 9=⟨cF (cF a (po.map oa)) (fr.map jj),cF (cF a (po.map oa)) (fr.map jj),[CN a cl ino (ck+9)],ck⟩:=by have t1:=UO ha h1 po.length (av _);rw[ox (by simp)] at t1;have t2:=Li (a:=cF a (po.map oa)) (by rw[qm,ha]) h2 fr.length (av _);rw[ox (by simp)] at t2;simp only[lV,hp,hf,t1,t2]
theorem UP {a b:ByteArray} (ha:a.size=768) {d:ai} {ck:Int} (hd:bZ d=true):cD ⟨a,b,[d],ck⟩=cF a (ma d):=by
 show gC a d=_
 rw[gC,aN ⟨hd,ha⟩,Ud]
theorem ah6 {a:ByteArray} {ds:List ai} {ck cl:Int} (hk:fj ⟨a,a,ds,ck⟩=true) (ha:a.size=768) (ht:ds.length+ja ds ds.length<=1048576) {Z:List aB} (hl:Z.all (fun p=>lB cl p.1 (p.2.size:Int) ds)=true):fH ⟨a,a,ds,ck⟩ Z Z.length=⟨cF a Z,cF a Z,ds,ck⟩/\fj ⟨cF a Z,cF a Z,ds,ck⟩=true/\∀ j,j<Z.length->uk cl (fH ⟨a,a,ds,ck⟩ Z j) (bl Z j):=by
 have hL:∀ j,j<Z.length->lB cl (bl Z j).1 ((bl Z j).2.size:Int) ds=true:=fun j hj=>by rw[mQ _ _ hj];exact oz.1 hl _ (ny hj)
 have hZ:kz Z=true:=oz.2 fun p hp=>bK (by have:=(UA (oz.1 hl p hp)).1;omega);have hO:∀ j,j<=Z.length->vK ⟨a,a,ds,ck⟩ (cF a (Z.take j)):=by
  intro j;induction j with
  | zero=>exact fun _=>⟨ha,fun _ _ _=>rfl⟩
  | succ j ih=>
   intro h;rw[C1 a (by omega)];exact aho (ih (by omega)) (hL j (by omega))
 have h1:∀ j,j<=Z.length->fj ⟨cF a (Z.take j),cF a (Z.take j),ds,ck⟩=true:=fun j hj=>Uz hk (hO j hj) (hO j hj);have e:=Lh ha ds ck hZ Z.length (av _);have e3:=h1 Z.length (av _);rw[nC] at e e3;refine ⟨e,e3,fun j hj=>?_⟩;obtain ⟨-,-,b2⟩:=CZ hZ hj;obtain ⟨b0,-,-⟩:=CZ hZ hj;have sj:(cF a (Z.take j)).size=768:=by rw[qm,ha]
 have e4:bu ⟨cF a (Z.take j),cF a (Z.take j),ds,ck⟩ (bl Z j).1 (bl Z j).2=⟨cF a (Z.take (j+1)),cF a (Z.take j),ds,ck⟩:=by rw[bu,dV,aN (by simp[dY,sj]),C1 a hj]
 have sj1:(cF a (Z.take (j+1))).size=768:=by rw[qm,ha]
 rw[Lh ha ds ck hZ j (by omega)];refine ⟨⟨by show (cF a (Z.take j)).size<=_;omega,by show (cF a (Z.take j)).size<=_;omega,ht⟩,?_,by omega,h1 j (by omega),?_,hL j hj⟩
 ·rw[e4];exact ⟨by show (cF a (Z.take (j+1))).size<=_;omega,by show (cF a (Z.take j)).size<=_;omega,ht⟩
 rw[e4];exact Uz hk (hO (j+1) (by omega)) (hO j (by omega))
def tc (l:List UInt8):List aB->List UInt8
 | []=>l
 | p :: r=>tc (CX l p.1.toNat p.2.data.toList) r
theorem UQ:∀ (Z:List aB) (l:List UInt8),l.length=768->kz Z=true->cF ⟨⟨l⟩⟩ Z=⟨⟨tc l Z⟩⟩
 | [],_,_,_=>rfl
 | p :: r,l,hl,h=>by
  obtain ⟨h1,h2⟩:=(ca _ _).mp h;have h3:=yT h1;have e:=K1 l p.2.data.toList _ p.1.toNat (by have:=dX p.2;omega) rfl;have e0:((p.1.toNat:Nat):Int)=p.1:=by omega
  rw[e0] at e;have e1:bs ⟨⟨l⟩⟩ p.1 p.2=⟨⟨CX l p.1.toNat p.2.data.toList⟩⟩:=e;rw[cF,e1,tc];refine UQ r _ ?_ h2;have:=dX p.2;simp only[CX,de,jk,kE];omega
theorem Am (A A':List (Nat × List UInt8)) (Z:List aB) (h1:(eL A).length=768) (h2:kz Z=true) (h3:tc (eL A) Z=eL A'):cF (ak A) Z=ak A':=by rw[ak,UQ Z _ h1 h2,h3]
end
structure Gv (d:ai):Prop where
 z1:d.pg.length<=1048576
 z2:d.po.length<=1048576
 z3:d.fr.length<=1048576
 z4:d.rc.size<=1048576
 z5:d.aU.size<=1048576
theorem Gv.fit {d:ai} (h:Gv d) (s:aI):iV d s:=by obtain ⟨z1,z2,z3,z4,z5⟩:=h;exact ⟨by omega,by omega,by omega⟩
theorem oc {w W0:World} {b:Nat} {v:Value} (hb:ah w W0) (h:ad w b 0 v) (hl:b<w.heap.size):ad W0 b 0 v:=(hb.cell (p:=⟨b,0,none⟩) hl).trans h
section
variable (k : bz) (d : ai) (Z : List aB) (a : Option Addr) (c : Nat) (s0 : Nat → aI) (e : jY) (v : Value) (w : World)
set_option maxHeartbeats 4000000
theorem ah7 (hz:ks k) (hok:fj k=true) (hR:cN w a k.ds s0) (hd:xC e.cl e.ino k.ds=d) (hh:xG e.cl e.ino k.ds=true) (hs:Gv d) (hx:e.tx.size<=1048576) (hv:ad w 4 0 v) (hl:5<w.heap.size) (hZ:Z.length<=1000) (hp:∀ j,j<Z.length->uk e.cl (fH k Z j) (bl Z j)) (hk:e.kd=6) (h1:ui d k.mem e.tx=Z) (h2:uh d k.mem e.tx=true):Calls prog 8 #[bP k a c,mH e] w (jy (fH k Z Z.length) 0 w):=by refine Gh k (fH k Z Z.length) d a c s0 e 63 0 w hz hok hR hd hh (.inl ⟨hk,rfl⟩) fun W0 B W a1 c1 s1 hb z0 hB t L=>?_;have hm:=hz.m;refine ag0 Z v k a1 c1 e d s1 B _ W0 W hB t hZ (by show 4<W0.heap.size;omega) (oc hb hv (by show 4<w.heap.size;omega)) hp fun W' _ hW=>?_;have:=agp d s1 k.mem e.tx W' (by omega) (by omega) (hs.fit s1) hs.z2 hs.z3 (L.below hW);rwa [h1,h2] at this
theorem ah8 (hz:ks k) (hok:fj k=true) (hR:cN w a k.ds s0) (hd:xC e.cl e.ino k.ds=d) (hh:xG e.cl e.ino k.ds=true) (hs:Gv d) (hv:ad w 4 0 v) (hl:5<w.heap.size) (hZ:Z.length<=1000) (hp:∀ j,j<Z.length->uk e.cl (fH k Z j) (bl Z j)) (hk:e.kd=8) (h1:rB d k.mem e.tx (gn d k.mem) (cV d k.mem)=Z) (h2:rC d k.mem e.tx (gn d k.mem) (cV d k.mem)=true):Calls prog 8 #[bP k a c,mH e] w (jy (fH k Z Z.length) 0 w):=by refine Gh k (fH k Z Z.length) d a c s0 e 65 0 w hz hok hR hd hh (.inr (.inr (.inl ⟨hk,rfl⟩))) fun W0 B W a1 c1 s1 hb z0 hB t L=>?_;have hm:=hz.m;refine ag1 Z v k a1 c1 e d s1 B _ W0 W hB t hZ (by show 4<W0.heap.size;omega) (oc hb hv (by show 4<w.heap.size;omega)) hp fun W' _ hW=>?_;have:=aht d s1 k.mem e.tx W' (by omega) (hs.fit s1) hs.z2 hs.z3 (L.below hW);rwa [h1,h2] at this
theorem ah9 (hz:ks k) (hok:fj k=true) (hR:cN w a k.ds s0) (hd:xC e.cl e.ino k.ds=d) (hh:xG e.cl e.ino k.ds=true) (hs:Gv d) (hx:e.tx.size<=1048576) (hv:ad w 4 0 v) (hl:5<w.heap.size) (hZ:Z.length<=1000) (hp:∀ j,j<Z.length->uk e.cl (fH k Z j) (bl Z j)) (hk:e.kd=9) (h1:oV e.at_ 1 (bI (aj k.mem e.at_)) (nh d k.mem e.at_) e.tx=Z) (h2:gm d k.mem e.at_ 1=true) (h3:bC d.fr e.at_=true) (h4:ji (nh d k.mem e.at_) e.tx=true):Calls prog 8 #[bP k a c,mH e] w (jy (fH k Z Z.length) 0 w):=by refine Gh k (fH k Z Z.length) d a c s0 e 66 0 w hz hok hR hd hh (.inr (.inr (.inr ⟨hk,rfl⟩))) fun W0 B W a1 c1 s1 hb z0 hB t L=>?_;have hm:=hz.m;refine ag2 Z v k a1 c1 e d s1 B _ W0 W hB t hZ (by show 4<W0.heap.size;omega) (oc hb hv (by show 4<w.heap.size;omega)) hp fun W' _ hW=>?_;have:=agF d s1 k.mem e.tx e.at_ W' (by omega) (by omega) (hs.fit s1) (L.below hW) h2 h3 h4;rwa [h1] at this
theorem aia (hz:ks k) (hok:fj k=true) (hR:cN w a k.ds s0) (hd:xC e.cl e.ino k.ds=d) (hh:xG e.cl e.ino k.ds=true) (hs:Gv d) (hx:e.tx.size<=1048576) (hv:ad w 4 0 v) (hl:5<w.heap.size) (hZ:Z.length<=1000) (hp:∀ j,j<Z.length->uk e.cl (fH k Z j) (bl Z j)) (f:Int) (fs:List Int) (hk:e.kd=7) (ha:e.at_=1) (h1 : [(aZ f,df 1 d.cl 0 [])]++lE d k.mem (cV d k.mem ++ [(f,e.tx)])=Z) (h2:gn d k.mem=true) (h3:d.fr=f :: fs) (h4:bC (dt (cV d k.mem)) f=false) (h5:nf d k.mem (cV d k.mem ++ [(f,e.tx)])=true):Calls prog 8 #[bP k a c,mH e] w (jy (fH k Z Z.length) 0 w):=by refine Gh k (fH k Z Z.length) d a c s0 e 64 0 w hz hok hR hd hh (.inr (.inl ⟨hk,rfl⟩)) fun W0 B W a1 c1 s1 hb z0 hB t L=>?_;have hm:=hz.m;refine ag4 Z f v k a1 c1 e d s1 B _ W0 W hB t hZ (by show 4<W0.heap.size;omega) (oc hb hv (by show 4<w.heap.size;omega)) hp fun W' _ hW=>?_;have:=agL d s1 k.mem e.tx f fs W' (by omega) (by omega) (hs.fit s1) (L.below hW) h2 h3 h4 h5;rw[h1] at this;rw[ha];exact this
end
theorem aib (k:bz) (a:Option Addr) (c:Nat) (s0:Nat->aI) (p:Nat) (e:jY) (v:Value) (w:World) (hz:ks k) (hok:fj k=true) (hR:cN w a k.ds s0) (hk:e.kd=3) (GN:gF (k.mem,k.aL)) (hp:p<k.ds.length) (hpl:∀ x,oS e.cl e.ino k.ds x->x=(p:Int)) (hgs:(eJ k.mem (aJ k.ds p)).length<=1048576) (hcs:(gD k.mem (aJ k.ds p)).length<=1048576) (si:mZ k (aJ k.ds p)=true) (hg:ad w 1 0 v) (hl:5<w.heap.size):Calls prog 8 #[bP k a c,mH e] w (jy (qj k p) 0 w):=by refine Ui k (qj k p) a c s0 e 60 0 w hz hok hR (.inr ⟨hk,rfl⟩) fun W0 B W a1 c1 hb z0 hB t=>?_;refine agY k (qj k p) a1 c1 e fh eV B _ 0 W0 W hB t fun W' ss hW L=>?_;have hW1:ah w W':=hb.trans (hW.mono (by omega));exact ahE k a1 c1 ss p e.cl e.ino v W' hz hok L GN hz.t hp hpl hgs hcs si (oc hW1 hg (by show 1<w.heap.size;omega)) (by have:=hW1.size;show 1<W'.heap.size;omega)
theorem aic (m du:ByteArray) (ck:Int) (a:Option Addr) (c:Nat) (s0:Nat->aI) (e:jY) (v0 v1 v2 v3:Value) (w:World) (hz:ks ⟨m,du,[],ck⟩) (hok:fj ⟨m,du,[],ck⟩=true) (hR:cN w a [] s0) (hk:e.kd=0) (ha:e.at_=9) (h:Gq m du ck e.cl e.ino) (hg0:ad w 0 0 v0) (hg1:ad w 1 0 v1) (hg2:ad w 2 0 v2) (hg3:ad w 3 0 v3) (hl:5<w.heap.size):Calls prog 8 #[bP ⟨m,du,[],ck⟩ a c,mH e] w (jy (lV m du ck e.cl e.ino 9) 0 w):=by refine Ui ⟨m,du,[],ck⟩ (lV m du ck e.cl e.ino 9) a c s0 e 57 0 w hz hok hR (.inl ⟨hk,rfl⟩) fun W0 B W a1 c1 hb z0 hB t=>?_;refine agZ (lV m du ck e.cl e.ino 9) 0 ⟨m,du,[],ck⟩ a1 c1 e fh eV B _ W0 W hB t fun W' ss hW L=>?_;have hW1:ah w W':=hb.trans (hW.mono (by omega));have hs:=hW1.size;rw[ha];exact ahw m du ck e.cl e.ino a1 c1 ss v0 v1 v2 v3 W' hz hok L h (oc hW1 hg0 (by show 0<w.heap.size;omega)) (oc hW1 hg1 (by show 1<w.heap.size;omega)) (oc hW1 hg2 (by show 2<w.heap.size;omega)) (oc hW1 hg3 (by show 3<w.heap.size;omega)) (by omega)
section
abbrev cZ (m:ByteArray) (d:ai):bz:=⟨m,m,[d],0⟩
abbrev rD:ByteArray:=⟨#[110,101,119]⟩
structure tf (m:ByteArray) (d:ai):Prop where
 s:m.size=768
 t : [d].length+ja [d] [d].length<=1048576
 ok:fj (cZ m d)=true
theorem tf.sz {m:ByteArray} {d:ai} (h:tf m d):ks (cZ m d):=⟨by show m.size<=_;have:=h.s;omega,by show m.size<=_;have:=h.s;omega,h.t⟩
theorem tf.sm {m:ByteArray} {d:ai} (h:tf m d):Gv d:=by obtain ⟨z1,z2,z3,z4,z5⟩:=h.sz.small 0 (by show 0<1;omega);exact ⟨z1,z2,z3,z4,z5⟩
structure vM (m:ByteArray) (d:ai) (Z:List aB) (m1:ByteArray):Prop where
 n:Z.length<=1000
 l:Z.all (fun p=>lB d.cl p.1 (p.2.size:Int) [d])=true
 e:cF m Z=m1
theorem vM.go {m m1:ByteArray} {d:ai} {Z:List aB} (h:tf m d) (p:vM m d Z m1):fH (cZ m d) Z Z.length=cZ m1 d/\tf m1 d/\∀ j,j<Z.length->uk d.cl (fH (cZ m d) Z j) (bl Z j):=by obtain ⟨h1,h2,h3⟩:=ah6 h.ok h.s h.t p.l;rw[p.e] at h1 h2;exact ⟨h1,⟨by rw[<- p.e,qm];exact h.s,h.t,h2⟩,h3⟩
structure Ao (m:ByteArray) (d:ai) (zs:List Int) (m1:ByteArray):Prop where
 may:mZ (cZ m d) d=true
 z:eJ m d++fG false d.fr (gD m d)=zs
 g:(eJ m d).length<=1048576
 c:(gD m d).length<=1048576
 i:kz (zs.map jj)=true
 e:cF m (zs.map jj)=m1
variable {m m1 : ByteArray} {d : ai} (a : Option Addr) (c : Nat) (s0 : Nat → aI) (v : Value) (w : World)
theorem vN (d:ai):xC d.cl d.ino [d]=d/\xG d.cl d.ino [d]=true:=by
 have h:sR d.cl d.ino [d]=some d:=by simp[sR,jJ]
 exact ⟨by rw[xC,h];rfl,by rw[xG,h];rfl⟩
theorem Lj {zs:List Int} (h:tf m d) (b:Ao m d zs m1) (hR:cN w a [d] s0) (hg:ad w 1 0 v) (hl:5<w.heap.size) (x:Int) (t:ByteArray):Calls prog 8 #[bP (cZ m d) a c,mH ⟨3,d.cl,d.ino,x,t⟩] w (jy ⟨m1,m1,[],0⟩ 0 w):=by
 have:=aib (cZ m d) a c s0 0 ⟨3,d.cl,d.ino,x,t⟩ v w h.sz h.ok hR rfl ⟨h.s,h.s⟩ (by show 0<1;omega) (fun y hy=>by
  rcases hy with ⟨-,h1⟩ | ⟨j,hj,rfl,-⟩
  ·have:=h1 0 (by show 0<1;omega);simp[jJ,aJ] at this
  have:j<1:=hj;congr 1;omega) b.g b.c b.may hg hl
 rwa [ah4 h.s b.may b.z b.i,b.e] at this
section
theorem aid {Z:List aB} (h:tf m d) (p:vM m d Z m1) (hR:cN w a [d] s0) (hv:ad w 4 0 v) (hl:5<w.heap.size) {t:ByteArray} (ht:t.size<=1048576) (x:Int) (h1:ui d m t=Z) (h2:uh d m t=true):Calls prog 8 #[bP (cZ m d) a c,mH ⟨6,d.cl,d.ino,x,t⟩] w (jy (cZ m1 d) 0 w):=by obtain ⟨e,h',hp⟩:=p.go h;have:=ah7 (cZ m d) d Z a c s0 ⟨6,d.cl,d.ino,x,t⟩ v w h.sz h.ok hR (vN d).1 (vN d).2 h.sm ht hv hl p.n hp rfl h1 h2;rwa [e] at this
theorem aie {Z:List aB} (h:tf m d) (p:vM m d Z m1) (hR:cN w a [d] s0) (hv:ad w 4 0 v) (hl:5<w.heap.size) {t:ByteArray} (x:Int) (h1:rB d m t (gn d m) (cV d m)=Z) (h2:rC d m t (gn d m) (cV d m)=true):Calls prog 8 #[bP (cZ m d) a c,mH ⟨8,d.cl,d.ino,x,t⟩] w (jy (cZ m1 d) 0 w):=by obtain ⟨e,h',hp⟩:=p.go h;have:=ah8 (cZ m d) d Z a c s0 ⟨8,d.cl,d.ino,x,t⟩ v w h.sz h.ok hR (vN d).1 (vN d).2 h.sm hv hl p.n hp rfl h1 h2;rwa [e] at this
theorem aif {Z:List aB} (h:tf m d) (p:vM m d Z m1) (hR:cN w a [d] s0) (hv:ad w 4 0 v) (hl:5<w.heap.size) {t:ByteArray} (ht:t.size<=1048576) (f:Int) (h1:oV f 1 (bI (aj m f)) (nh d m f) t=Z) (h2:gm d m f 1=true) (h3:bC d.fr f=true) (h4:ji (nh d m f) t=true):Calls prog 8 #[bP (cZ m d) a c,mH ⟨9,d.cl,d.ino,f,t⟩] w (jy (cZ m1 d) 0 w):=by obtain ⟨e,h',hp⟩:=p.go h;have:=ah9 (cZ m d) d Z a c s0 ⟨9,d.cl,d.ino,f,t⟩ v w h.sz h.ok hR (vN d).1 (vN d).2 h.sm ht hv hl p.n hp rfl h1 h2 h3 h4;rwa [e] at this
theorem aih {Z:List aB} (h:tf m d) (p:vM m d Z m1) (hR:cN w a [d] s0) (hv:ad w 4 0 v) (hl:5<w.heap.size) {t:ByteArray} (ht:t.size<=1048576) (f:Int) (fs:List Int) (h1 : [(aZ f,df 1 d.cl 0 [])]++lE d m (cV d m ++ [(f,t)])=Z) (h2:gn d m=true) (h3:d.fr=f :: fs) (h4:bC (dt (cV d m)) f=false) (h5:nf d m (cV d m ++ [(f,t)])=true):Calls prog 8 #[bP (cZ m d) a c,mH ⟨7,d.cl,d.ino,1,t⟩] w (jy (cZ m1 d) 0 w):=by obtain ⟨e,h',hp⟩:=p.go h;have:=aia (cZ m d) d Z a c s0 ⟨7,d.cl,d.ino,1,t⟩ v w h.sz h.ok hR (vN d).1 (vN d).2 h.sm ht hv hl p.n hp f fs rfl rfl h1 h2 h3 h4 h5;rwa [e] at this
end
structure aii (m:ByteArray) (d:ai) (t:ByteArray) (Z:List aB) (m1:ByteArray) (zs:List Int) (m2:ByteArray):Prop where
 ts:t.size<=1048576
 z:ui d m t=Z
 o:uh d m t=true
 p:vM m d Z m1
 b:Ao m1 d zs m2
 ld:dj m2 d.ino=t
structure Ll (m:ByteArray) (d:ai) (t:ByteArray) (f:Int) (fs:List Int) (Z1:List aB) (m1:ByteArray) (Z2:List aB) (m2:ByteArray) (zs:List Int) (m3:ByteArray) (d4:ai) (m4:ByteArray) (Z5:List aB) (m5:ByteArray) (AJ:List Int) (m6:ByteArray):Prop where
 ts:t.size<=1048576
 n0:gn d m=true
 fr:d.fr=f :: fs
 z1 : [(aZ f,df 1 d.cl 0 [])]++lE d m (cV d m ++ [(f,rD)])=Z1
 n1:bC (dt (cV d m)) f=false
 o1:nf d m (cV d m ++ [(f,rD)])=true
 p1:vM m d Z1 m1
 i1:gn d m1=true
 e1:∃ l s,cV d m1=l ++ [(f,s)]
 z2:oV f 1 (bI (aj m1 f)) (nh d m1 f) t=Z2
 s2:gm d m1 f 1=true
 h2:bC d.fr f=true
 f2:ji (nh d m1 f) t=true
 p2:vM m1 d Z2 m2
 b3:Ao m2 d zs m3
 l3:cI m3 f=true/\cB m3 f=d.cl/\dj m3 f=t
 a3:Gq m3 m3 0 d.cl d.ino
 e4:lV m3 m3 0 d.cl d.ino 9=cZ m4 d4
 Xl:d4.cl=d.cl
 VI:d4.ino=d.ino
 k4:tf m4 d4
 z5:rB d4 m4 rD (gn d4 m4) (cV d4 m4)=Z5
 o5:rC d4 m4 rD (gn d4 m4) (cV d4 m4)=true
 p5:vM m4 d4 Z5 m5
 b6:Ao m5 d4 AJ m6
 l6:cI m6 f=false
theorem Ll.ak0 {t:ByteArray} {f:Int} {fs:List Int} {Z1:List aB} {Z2:List aB} {m2:ByteArray} {zs:List Int} {m3:ByteArray} {d4:ai} {m4:ByteArray} {Z5:List aB} {m5:ByteArray} {AJ:List Int} {m6:ByteArray} (h:Ll m d t f fs Z1 m1 Z2 m2 zs m3 d4 m4 Z5 m5 AJ m6) (hR:cN w a [] s0) (v0 v1 v2 v3:Value) (hg0:ad w 0 0 v0) (hg1:ad w 1 0 v1) (hg2:ad w 2 0 v2) (hg3:ad w 3 0 v3) (hl:5<w.heap.size) (x:ByteArray):Calls prog 8 #[bP ⟨m3,m3,[],0⟩ a c,mH ⟨0,d.cl,d.ino,9,x⟩] w (jy (cZ m4 d4) 0 w):=by have s3:m3.size=768:=h.a3.ok.1;have:=aic m3 m3 0 a c s0 ⟨0,d.cl,d.ino,9,x⟩ v0 v1 v2 v3 w ⟨by show m3.size<=_;omega,by show m3.size<=_;omega,by show 0+0<=_;omega⟩ (ahn s3 ⟨by omega,by omega⟩ h.a3.s) hR rfl rfl h.a3 hg0 hg1 hg2 hg3 hl;rwa [h.e4] at this
end
section
set_option maxRecDepth 100000
theorem Gw:cq (ak aE)=true:=by decide +kernel
abbrev lH:ai:=⟨0,1,50,ak [(0,[2,9,32]),(1,[5]),(11,[])],[5],ak [(0,[1,1,97]),(13,[2,1,98]),(13,[])],[8,9,10,11],[3,4]⟩
theorem UR:cD ⟨ak aE,ak aE,[lH],0⟩=ak aE:=by
 show gC (ak aE) lH=ak aE
 rw[gC,aN ⟨by decide +kernel,by decide +kernel⟩];show fF lH (fT lH (bs (ak aE) (aZ 0) lH.rc) 1) 2=ak aE
 have e0:bs (ak aE) (aZ 0) lH.rc=ak aE:=jZ aE aE [(0,[2,9,32]),(1,[5]),(11,[])] _ _ _ 32 rfl rfl rfl (by decide +kernel);have p0:bs (ak aE) (lH.pg.getD 0 0*32) (aX lH.aU (((0:Nat):Int)*32) 32)=ak aE:=jZ aE aE [(0,[1,1,97]),(13,[2,1,98]),(13,[])] _ _ _ 160 rfl (by decide +kernel) (by decide) (by decide +kernel);have q0:fT lH (ak aE) 0=ak aE:=rfl;have q1:fT lH (ak aE) 1=ak aE:=by rw[fT,q0];exact p0
 have r0:fF lH (ak aE) 0=ak aE:=rfl;have r1:fF lH (ak aE) 1=ak aE:=by rw[fF,r0];exact jZ aE aE [(16,[])] _ _ _ 80 rfl (by kernel_rfl) (by decide) (by decide +kernel)
 have r2:fF lH (ak aE) 2=ak aE:=by rw[fF,r1];exact jZ aE aE [(16,[])] _ _ _ 96 rfl (by kernel_rfl) (by decide) (by decide +kernel)
 rw[e0,q1,r2]
theorem aij:fj (jh cT 1 0)=true:=by rw[UG,K8];exact CY _ _ _ _ (by decide +kernel) UR Gw (by decide +kernel) (by decide +kernel)
abbrev lI:ai:=⟨0,2,50,ak [(0,[2,9,32]),(1,[5]),(11,[])],[5],ak [(0,[1,1,97]),(13,[2,1,98]),(13,[])],[8,9,10,11],[3,4]⟩
theorem UT:cD ⟨ak aE,ak aE,[lI],0⟩=ak aE:=by
 show gC (ak aE) lI=ak aE
 rw[gC,aN ⟨by decide +kernel,by decide +kernel⟩];show fF lI (fT lI (bs (ak aE) (aZ 0) lI.rc) 1) 2=ak aE
 have e0:bs (ak aE) (aZ 0) lI.rc=ak aE:=jZ aE aE [(0,[2,9,32]),(1,[5]),(11,[])] _ _ _ 32 rfl rfl rfl (by decide +kernel);have p0:bs (ak aE) (lI.pg.getD 0 0*32) (aX lI.aU (((0:Nat):Int)*32) 32)=ak aE:=jZ aE aE [(0,[1,1,97]),(13,[2,1,98]),(13,[])] _ _ _ 160 rfl (by decide +kernel) (by decide) (by decide +kernel);have q0:fT lI (ak aE) 0=ak aE:=rfl;have q1:fT lI (ak aE) 1=ak aE:=by rw[fT,q0];exact p0
 have r0:fF lI (ak aE) 0=ak aE:=rfl;have r1:fF lI (ak aE) 1=ak aE:=by rw[fF,r0];exact jZ aE aE [(16,[])] _ _ _ 80 rfl (by kernel_rfl) (by decide) (by decide +kernel)
 have r2:fF lI (ak aE) 2=ak aE:=by rw[fF,r1];exact jZ aE aE [(16,[])] _ _ _ 96 rfl (by kernel_rfl) (by decide) (by decide +kernel)
 rw[e0,q1,r2]
theorem aik:fj (jh cT 2 0)=true:=by rw[UI,K9];exact CY _ _ _ _ (by decide +kernel) UT Gw (by decide +kernel) (by decide +kernel)
abbrev kX:ai:=⟨1,1,50,ak [(0,[1,1,40]),(1,[7,6]),(10,[])],[7,6],ak [(0,[114,101]),(30,[115,111,109,101,32,119,111,114,100,115,32,111,102,32,97,32,102,105,108,101,32,116,104,97,116,32,119,97,115,32,104,101])],[8,9,10,11],[]⟩
theorem UU:cD ⟨ak aE,ak aE,[kX],0⟩=ak aE:=by
 show gC (ak aE) kX=ak aE
 rw[gC,aN ⟨by decide +kernel,by decide +kernel⟩];show fF kX (fT kX (bs (ak aE) (aZ 1) kX.rc) 2) 0=ak aE
 have e0:bs (ak aE) (aZ 1) kX.rc=ak aE:=jZ aE aE [(0,[1,1,40]),(1,[7,6]),(10,[])] _ _ _ 48 rfl rfl rfl (by decide +kernel);have p0:bs (ak aE) (kX.pg.getD 0 0*32) (aX kX.aU (((0:Nat):Int)*32) 32)=ak aE:=jZ aE aE [(0,[114,101]),(30,[])] _ _ _ 224 rfl (by decide +kernel) (by decide) (by decide +kernel);have p1:bs (ak aE) (kX.pg.getD 1 0*32) (aX kX.aU (((1:Nat):Int)*32) 32)=ak aE:=jZ aE aE [(0,[115,111,109,101,32,119,111,114,100,115,32,111,102,32,97,32,102,105,108,101,32,116,104,97,116,32,119,97,115,32,104,101])] _ _ _ 192 rfl (by decide +kernel) (by decide) (by decide +kernel);have q0:fT kX (ak aE) 0=ak aE:=rfl;have q1:fT kX (ak aE) 1=ak aE:=by rw[fT,q0];exact p0
 have q2:fT kX (ak aE) 2=ak aE:=by rw[fT,q1];exact p1
 have r0:fF kX (ak aE) 0=ak aE:=rfl;rw[e0,q2,r0]
theorem ail:fj (jh cT 1 1)=true:=by rw[UK,La];exact CY _ _ _ _ (by decide +kernel) UU Gw (by decide +kernel) (by decide +kernel)
abbrev ni:ai:=⟨2,2,50,ak [(0,[2,2]),(14,[])],[],ak [],[8,9,10,11],[3,4]⟩
theorem UW:cD ⟨ak aE,ak aE,[ni],0⟩=ak aE:=by
 show gC (ak aE) ni=ak aE
 rw[gC,aN ⟨by decide +kernel,by decide +kernel⟩];show fF ni (fT ni (bs (ak aE) (aZ 2) ni.rc) 0) 2=ak aE
 have e0:bs (ak aE) (aZ 2) ni.rc=ak aE:=jZ aE aE [(0,[2,2]),(14,[])] _ _ _ 64 rfl rfl rfl (by decide +kernel);have q0:fT ni (ak aE) 0=ak aE:=rfl;have r0:fF ni (ak aE) 0=ak aE:=rfl;have r1:fF ni (ak aE) 1=ak aE:=by rw[fF,r0];exact jZ aE aE [(16,[])] _ _ _ 80 rfl (by kernel_rfl) (by decide) (by decide +kernel)
 have r2:fF ni (ak aE) 2=ak aE:=by rw[fF,r1];exact jZ aE aE [(16,[])] _ _ _ 96 rfl (by kernel_rfl) (by decide) (by decide +kernel)
 rw[e0,q0,r2]
theorem aim:fj (jh cT 2 2)=true:=by rw[UM,Lb];exact CY _ _ _ _ (by decide +kernel) UW Gw (by decide +kernel) (by decide +kernel)
end
abbrev dm:=List (Nat × List UInt8)
def Ap (A:dm) (d:ai) (Z:List aB) (A1:dm):Bool:=decide (Z.length<=1000) && (Z.all (fun p=>lB d.cl p.1 (p.2.size:Int) [d]) && (decide ((eL A).length=768) && (kz Z && decide (tc (eL A) Z=eL A1))))
theorem Gx {A A1:dm} {d:ai} {Z:List aB} (h:Ap A d Z A1=true):vM (ak A) d Z (ak A1):=by simp only[Ap,ca,dp] at h;obtain ⟨h1,h2,h3,h4,h5⟩:=h;exact ⟨h1,h2,Am A A1 Z h3 h4 h5⟩
def Gy (A:dm) (d:ai) (cs zs:List Int) (A1:dm):Bool:=fQ (ak A) d && (decide (eJ (ak A) d=[]) && (decide (gD (ak A) d=cs) && (decide (fG false d.fr cs=zs) && (decide (cs.length<=8) && (decide ((eL A).length=768) && (kz (zs.map jj) && decide (tc (eL A) (zs.map jj)=eL A1)))))))
theorem UX {A A1:dm} {d:ai} {cs zs:List Int} (h:Gy A d cs zs A1=true):Ao (ak A) d zs (ak A1):=by
 simp only[Gy,ca,dp] at h;obtain ⟨h1,h2,h3,h4,h5,h6,h7,h8⟩:=h;refine ⟨?_,by rw[h2,h3,h4];rfl,by rw[h2];exact bh _,by rw[h3];omega,h7,Am A A1 _ h6 h7 h8⟩;show (fQ (ak A) d && bX _ (eJ (ak A) d).length)=true
 rw[h1,h2];rfl
def Lm (A T:dm) (d:ai) (x:Int) (A1:dm):Bool:=fQ (ak A) d && (decide (eJ (ak A) d=[x]) && (decide (gD (ak A) d=[]) && (decide ((eL A).length=768) && (kz (ma d) && (decide (tc (eL A) (ma d)=eL T) && (bZ d && (!(bC [d.ino] x || (decide (bO (ak T) x=2) && !decide (cX (ak T) x=0))) && (kz ((x :: d.fr).map jj) && decide (tc (eL A) ((x :: d.fr).map jj)=eL A1)))))))))
theorem ain (zs:List Int):fG false zs []=zs:=by unfold fG;exact List.filter_eq_self.2 fun z _=>by simp[bC]
theorem aio {A T A1:dm} {d:ai} {x:Int} (h:Lm A T d x A1=true):Ao (ak A) d (x :: d.fr) (ak A1):=by
 simp only[Lm,ca,dp] at h;obtain ⟨h1,h2,h3,h4,h5,h6,h7,h8,h9,h10⟩:=h;have e:cD (cZ (ak A) d)=ak T:=by rw[UP (a:=ak A) h4 h7,Am A T _ h4 h5 h6]
 refine ⟨?_,by rw[h2,h3,ain];rfl,by rw[h2];show 1<=_;omega,by rw[h3];exact bh _,h9,Am A A1 _ h4 h9 h10⟩;show (fQ (ak A) d && bX _ (eJ (ak A) d).length)=true
 rw[h1,h2];refine kH.2 fun i hi=>?_;obtain rfl:i=0:=by have:i<1:=hi;omega
 show Af _ x=true
 rw[Af,e];exact h8
def UY (A:dm) (d:ai) (t:ByteArray) (Z:List aB) (A1:dm):Bool:=decide (t.size<=1048576) && (decide (ui d (ak A) t=Z) && (uh d (ak A) t && (Ap A d Z A1 && (Gy A1 d [] d.fr A1 && decide (dj (ak A1) d.ino=t)))))
def Aq (m:ByteArray) (d:ai) (t:ByteArray):Prop:=∃ Z m1 zs m2,aii m d t Z m1 zs m2
def od (m:ByteArray) (d:ai) (t:ByteArray):Prop:=∃ f fs Z1 m1 Z2 m2 zs m3 d4 m4 Z5 m5 AJ m6,Ll m d t f fs Z1 m1 Z2 m2 zs m3 d4 m4 Z5 m5 AJ m6
theorem Gz {A:dm} {d:ai} {t:ByteArray} (Z:List aB) (A1:dm) (h:UY A d t Z A1=true):Aq (ak A) d t:=by simp only[UY,ca,dp] at h;obtain ⟨h1,h2,h3,h4,h5,h6⟩:=h;exact ⟨_,_,_,_,h1,h2,h3,Gx h4,UX h5,h6⟩
def UZ (A:dm) (d:ai) (t:ByteArray) (f:Int) (fs:List Int) (Z1:List aB) (A1:dm):Bool:=gn d (ak A) && (decide (d.fr=f :: fs) && (decide ([(aZ f,df 1 d.cl 0 [])]++lE d (ak A) (cV d (ak A) ++ [(f,rD)])=Z1) && (!bC (dt (cV d (ak A))) f && (nf d (ak A) (cV d (ak A) ++ [(f,rD)]) && (Ap A d Z1 A1 && (gn d (ak A1) && decide ((cV d (ak A1)).drop ((cV d (ak A1)).length-1)=[(f,rD)])))))))
def U0 (A:dm) (d:ai) (t:ByteArray) (f:Int) (fs:List Int) (Z2:List aB) (A2:dm):Bool:=decide (t.size<=1048576) && (decide (oV f 1 (bI (aj (ak A) f)) (nh d (ak A) f) t=Z2) && (gm d (ak A) f 1 && (bC d.fr f && (ji (nh d (ak A) f) t && (Ap A d Z2 A2 && (Gy A2 d [f] fs A2 && (cI (ak A2) f && (decide (cB (ak A2) f=d.cl) && decide (dj (ak A2) f=t)))))))))
def U1 (A:dm) (d:ai) (d4:ai):Bool:=decide ((eL A).length=768) && (cI (ak A) d.ino && (decide (bO (ak A) d.ino=2) && (decide (cB (ak A) d.ino=d.cl\/cB (ak A) d.ino=9) && (eE d4.pg && (decide (d4.pg.length<=6) && (decide (0<=d.cl/\d.cl<=8) && (decide (aj (ak A) d.ino=d4.rc) && (decide (bV (ak A) d.ino=d4.pg) && (decide (di (ak A) d4.pg d4.pg.length=d4.aU) && (kz (d4.po.map oa) && (kz (d4.fr.map jj) && (decide (tc (eL A) (d4.po.map oa++d4.fr.map jj)=eL A) && (decide ([d4].length+ja [d4] [d4].length<=1048576) && (bZ d4 && (kz (ma d4) && (decide (tc (eL A) (ma d4)=eL A) && (decide (d4.ino=d.ino/\d4.cl=d.cl/\d4.un=9))))))))))))))))))
def og (A:dm) (d4:ai) (us fi:List Int):Bool:=decide (cj (ak A)=us) && (decide (dM (ak A)=fi) && (decide (us.length<=1000) && (decide (cY us 5 4 19=d4.po) && (decide (cY fi 0 2 8=d4.fr) && (tV (ak A) us fi d4 && (ff (fM [d4]) && (gV (fM [d4]++kQ [d4]) && gV (rv [d4]))))))))
def U2 (A:dm) (d4:ai) (f:Int) (Z5:List aB) (A5 A6:dm):Bool:=decide (rB d4 (ak A) rD (gn d4 (ak A)) (cV d4 (ak A))=Z5) && (rC d4 (ak A) rD (gn d4 (ak A)) (cV d4 (ak A)) && (Ap A d4 Z5 A5 && (Lm A5 A d4 f A6 && !cI (ak A6) f)))
theorem qq {A:dm} {d:ai} {t:ByteArray} (f:Int) (fs:List Int) (Z1:List aB) (A1:dm) (Z2:List aB) (A2:dm) (d4:ai) (us fi:List Int) (Z5:List aB) (A5 A6:dm) (h1:UZ A d t f fs Z1 A1=true) (h2:U0 A1 d t f fs Z2 A2=true) (h3:U1 A2 d d4=true) (hs:cq (ak A2)=true) (h4:og A2 d4 us fi=true) (h5:U2 A2 d4 f Z5 A5 A6=true):od (ak A) d t:=by
 simp only[UZ,ca,dp,oy] at h1;simp only[U0,ca,dp] at h2;simp only[U1,ca,dp] at h3;simp only[og,ca,dp] at h4;simp only[U2,ca,dp,oy] at h5;obtain ⟨a1,a2,a3,a4,a5,a6,a7,a8⟩:=h1;obtain ⟨b1,b2,b3,b4,b5,b6,b7,b8,b9,b10⟩:=h2;obtain ⟨c1,c2,c3,c4,c5,c6,c7,c8,c9,c10,c11,c12,c13,c14,c15,c16,c17,c18,c19,c20⟩:=h3;obtain ⟨e1,e2,e3,e4,e5,e6,e7,e8,e9⟩:=h4;obtain ⟨f1,f2,f3,f4,f5⟩:=h5;have hp:gW (ak A2)=d4.po:=by rw[gW,e1,e4]
 have hf:oT (ak A2)=d4.fr:=by rw[oT,e2,e5]
 have hz:kz (d4.po.map oa++d4.fr.map jj)=true:=by rw[kz,List.all_append];exact (ca _ _).mpr ⟨c11,c12⟩
 have hw:=Am A2 A2 _ c1 hz c13;rw[Ak] at hw;have hd:CN (ak A2) d.cl d.ino (0+9)=d4:=by rw[CN,hp,hf,c8,c9,c10];have:d4=⟨d4.ino,d4.cl,d4.un,d4.rc,d4.pg,d4.aU,d4.po,d4.fr⟩:=rfl;rw[this,c18,c19,c20];rfl
 have ht:cD (cZ (ak A2) d4)=ak A2:=by rw[UP (a:=ak A2) c1 c15,Am A2 A2 _ c1 c16 c17]
 refine ⟨f,fs,Z1,ak A1,Z2,ak A2,fs,ak A2,d4,ak A2,Z5,ak A5,f :: d4.fr,ak A6,b1,a1,a2,a3,a4,a5,Gx a6,a7,⟨(cV d (ak A1)).take ((cV d (ak A1)).length-1),rD,?_⟩,b2,b3,b4,b5,Gx b6,UX b7,⟨b8,b9,b10⟩,⟨⟨c1,c1⟩,hs,c2,c3,c4,by omega,by omega,by rw[c9];exact c5,by rw[c9];exact c6,by rw[e1];exact e3,c7.1,c7.2⟩,?_,c19,c18,⟨c1,c14,?_⟩,f1,f2,Gx f3,aio f4,f5⟩
 ·rw[<- a8];exact (List.take_append_drop _ _).symm
 ·rw[ah5 (a:=ak A2) c1 hp hf c11 c12,hw,hd]
 refine CY _ _ _ _ c1 ht hs (kH.2 fun i hi=>?_) ?_
 ·obtain rfl:i=0:=by have:i<1:=hi;omega
  rw[e1,e2];exact e6
 rw[e7,e8,e9];rfl
section
set_option maxRecDepth 100000
abbrev tg:ByteArray:=ak []
abbrev th:ByteArray:=ak [(0,[97,108,108,32,116])]
abbrev uo:ByteArray:=ak [(0,[97,108,108,32,116,104,101,32,98,121,116,101,115,32,116,104,97,116,32,97,32,102,105,108,101,32,109,97,121,32,104,97])]
abbrev uq:ByteArray:=ak [(0,[97,108,108,32,116,104,101,32,98,121,116,101,115,32,116,104,97,116,32,97,32,102,105,108,101,32,109,97,121,32,104,97,118,101,44,32,97,110,100,32,115,111,109,101,32,109,111,114,101,32,111,102,32,116,104,101,109,44,32,115,111,32,116,104,97,116,32,105,116,32])]
abbrev xV:dm:=[(0,[84,78,82,49]),(28,[2,9,48]),(1,[5,8]),(10,[1,1,40]),(1,[7,6]),(10,[2,2]),(14,[1,1]),(78,[1,1,97]),(13,[2,1,98]),(13,[115,111,109,101,32,119,111,114,100,115,32,111,102,32,97,32,102,105,108,101,32,116,104,97,116,32,119,97,115,32,104,101,114,101]),(30,[3,3,110,101,119]),(507,[])]
abbrev aip:dm:=[(0,[84,78,82,49]),(28,[2,9,32]),(1,[5]),(11,[1,1,40]),(1,[7,6]),(10,[2,2]),(14,[1,1]),(78,[1,1,97]),(13,[2,1,98]),(13,[115,111,109,101,32,119,111,114,100,115,32,111,102,32,97,32,102,105,108,101,32,116,104,97,116,32,119,97,115,32,104,101,114,101]),(30,[3,3,110,101,119]),(507,[])]
abbrev Lo:dm:=[(0,[84,78,82,49]),(28,[2,9,32]),(1,[5]),(11,[1,1,40]),(1,[7,6]),(10,[2,2]),(94,[1,1,97]),(13,[2,1,98]),(13,[115,111,109,101,32,119,111,114,100,115,32,111,102,32,97,32,102,105,108,101,32,116,104,97,116,32,119,97,115,32,104,101,114,101]),(30,[3,3,110,101,119]),(507,[])]
abbrev Lq:dm:=[(0,[84,78,82,49]),(28,[2,9,48]),(1,[5,8]),(10,[1,1,40]),(1,[7,6]),(10,[2,2]),(14,[1,1,5]),(1,[9]),(75,[1,1,97]),(13,[2,1,98]),(13,[115,111,109,101,32,119,111,114,100,115,32,111,102,32,97,32,102,105,108,101,32,116,104,97,116,32,119,97,115,32,104,101,114,101]),(30,[3,3,110,101,119]),(27,[97,108,108,32,116]),(475,[])]
abbrev aiq:dm:=[(0,[84,78,82,49]),(28,[2,9,32]),(1,[5]),(11,[1,1,40]),(1,[7,6]),(10,[2,2]),(14,[1,1,5]),(1,[9]),(75,[1,1,97]),(13,[2,1,98]),(13,[115,111,109,101,32,119,111,114,100,115,32,111,102,32,97,32,102,105,108,101,32,116,104,97,116,32,119,97,115,32,104,101,114,101]),(30,[3,3,110,101,119]),(27,[97,108,108,32,116]),(475,[])]
abbrev Lr:dm:=[(0,[84,78,82,49]),(28,[2,9,32]),(1,[5]),(11,[1,1,40]),(1,[7,6]),(10,[2,2]),(94,[1,1,97]),(13,[2,1,98]),(13,[115,111,109,101,32,119,111,114,100,115,32,111,102,32,97,32,102,105,108,101,32,116,104,97,116,32,119,97,115,32,104,101,114,101]),(30,[3,3,110,101,119]),(27,[97,108,108,32,116]),(475,[])]
abbrev Lt:dm:=[(0,[84,78,82,49]),(28,[2,9,48]),(1,[5,8]),(10,[1,1,40]),(1,[7,6]),(10,[2,2]),(14,[1,1,32]),(1,[9]),(75,[1,1,97]),(13,[2,1,98]),(13,[115,111,109,101,32,119,111,114,100,115,32,111,102,32,97,32,102,105,108,101,32,116,104,97,116,32,119,97,115,32,104,101,114,101]),(30,[3,3,110,101,119]),(27,[97,108,108,32,116,104,101,32,98,121,116,101,115,32,116,104,97,116,32,97,32,102,105,108,101,32,109,97,121,32,104,97]),(448,[])]
abbrev air:dm:=[(0,[84,78,82,49]),(28,[2,9,32]),(1,[5]),(11,[1,1,40]),(1,[7,6]),(10,[2,2]),(14,[1,1,32]),(1,[9]),(75,[1,1,97]),(13,[2,1,98]),(13,[115,111,109,101,32,119,111,114,100,115,32,111,102,32,97,32,102,105,108,101,32,116,104,97,116,32,119,97,115,32,104,101,114,101]),(30,[3,3,110,101,119]),(27,[97,108,108,32,116,104,101,32,98,121,116,101,115,32,116,104,97,116,32,97,32,102,105,108,101,32,109,97,121,32,104,97]),(448,[])]
abbrev Lu:dm:=[(0,[84,78,82,49]),(28,[2,9,32]),(1,[5]),(11,[1,1,40]),(1,[7,6]),(10,[2,2]),(94,[1,1,97]),(13,[2,1,98]),(13,[115,111,109,101,32,119,111,114,100,115,32,111,102,32,97,32,102,105,108,101,32,116,104,97,116,32,119,97,115,32,104,101,114,101]),(30,[3,3,110,101,119]),(27,[97,108,108,32,116,104,101,32,98,121,116,101,115,32,116,104,97,116,32,97,32,102,105,108,101,32,109,97,121,32,104,97]),(448,[])]
abbrev Lv:dm:=[(0,[84,78,82,49]),(28,[2,9,48]),(1,[5,8]),(10,[1,1,40]),(1,[7,6]),(10,[2,2]),(14,[1,1,70]),(1,[9,10,11]),(73,[1,1,97]),(13,[2,1,98]),(13,[115,111,109,101,32,119,111,114,100,115,32,111,102,32,97,32,102,105,108,101,32,116,104,97,116,32,119,97,115,32,104,101,114,101]),(30,[3,3,110,101,119]),(27,[97,108,108,32,116,104,101,32,98,121,116,101,115,32,116,104,97,116,32,97,32,102,105,108,101,32,109,97,121,32,104,97,118,101,44,32,97,110,100,32,115,111,109,101,32,109,111,114,101,32,111,102,32,116,104,101,109,44,32,115,111,32,116,104,97,116,32,105,116,32]),(410,[])]
abbrev ais:dm:=[(0,[84,78,82,49]),(28,[2,9,32]),(1,[5]),(11,[1,1,40]),(1,[7,6]),(10,[2,2]),(14,[1,1,70]),(1,[9,10,11]),(73,[1,1,97]),(13,[2,1,98]),(13,[115,111,109,101,32,119,111,114,100,115,32,111,102,32,97,32,102,105,108,101,32,116,104,97,116,32,119,97,115,32,104,101,114,101]),(30,[3,3,110,101,119]),(27,[97,108,108,32,116,104,101,32,98,121,116,101,115,32,116,104,97,116,32,97,32,102,105,108,101,32,109,97,121,32,104,97,118,101,44,32,97,110,100,32,115,111,109,101,32,109,111,114,101,32,111,102,32,116,104,101,109,44,32,115,111,32,116,104,97,116,32,105,116,32]),(410,[])]
abbrev Lw:dm:=[(0,[84,78,82,49]),(28,[2,9,32]),(1,[5]),(11,[1,1,40]),(1,[7,6]),(10,[2,2]),(94,[1,1,97]),(13,[2,1,98]),(13,[115,111,109,101,32,119,111,114,100,115,32,111,102,32,97,32,102,105,108,101,32,116,104,97,116,32,119,97,115,32,104,101,114,101]),(30,[3,3,110,101,119]),(27,[97,108,108,32,116,104,101,32,98,121,116,101,115,32,116,104,97,116,32,97,32,102,105,108,101,32,109,97,121,32,104,97,118,101,44,32,97,110,100,32,115,111,109,101,32,109,111,114,101,32,111,102,32,116,104,101,109,44,32,115,111,32,116,104,97,116,32,105,116,32]),(410,[])]
abbrev xX:dm:=[(0,[84,78,82,49]),(28,[2,9,48]),(1,[5,8]),(10,[1,1,40]),(1,[7,6]),(10,[2,2]),(14,[1,2]),(78,[1,1,97]),(13,[2,1,98]),(13,[115,111,109,101,32,119,111,114,100,115,32,111,102,32,97,32,102,105,108,101,32,116,104,97,116,32,119,97,115,32,104,101,114,101]),(30,[3,3,110,101,119]),(507,[])]
abbrev U3:dm:=[(0,[84,78,82,49]),(28,[2,9,32]),(1,[5]),(11,[1,1,40]),(1,[7,6]),(10,[2,2]),(14,[1,2]),(78,[1,1,97]),(13,[2,1,98]),(13,[115,111,109,101,32,119,111,114,100,115,32,111,102,32,97,32,102,105,108,101,32,116,104,97,116,32,119,97,115,32,104,101,114,101]),(30,[3,3,110,101,119]),(507,[])]
abbrev Ly:dm:=[(0,[84,78,82,49]),(28,[2,9,48]),(1,[5,8]),(10,[1,1,40]),(1,[7,6]),(10,[2,2]),(14,[1,2,5]),(1,[9]),(75,[1,1,97]),(13,[2,1,98]),(13,[115,111,109,101,32,119,111,114,100,115,32,111,102,32,97,32,102,105,108,101,32,116,104,97,116,32,119,97,115,32,104,101,114,101]),(30,[3,3,110,101,119]),(27,[97,108,108,32,116]),(475,[])]
abbrev U4:dm:=[(0,[84,78,82,49]),(28,[2,9,32]),(1,[5]),(11,[1,1,40]),(1,[7,6]),(10,[2,2]),(14,[1,2,5]),(1,[9]),(75,[1,1,97]),(13,[2,1,98]),(13,[115,111,109,101,32,119,111,114,100,115,32,111,102,32,97,32,102,105,108,101,32,116,104,97,116,32,119,97,115,32,104,101,114,101]),(30,[3,3,110,101,119]),(27,[97,108,108,32,116]),(475,[])]
abbrev LA:dm:=[(0,[84,78,82,49]),(28,[2,9,48]),(1,[5,8]),(10,[1,1,40]),(1,[7,6]),(10,[2,2]),(14,[1,2,32]),(1,[9]),(75,[1,1,97]),(13,[2,1,98]),(13,[115,111,109,101,32,119,111,114,100,115,32,111,102,32,97,32,102,105,108,101,32,116,104,97,116,32,119,97,115,32,104,101,114,101]),(30,[3,3,110,101,119]),(27,[97,108,108,32,116,104,101,32,98,121,116,101,115,32,116,104,97,116,32,97,32,102,105,108,101,32,109,97,121,32,104,97]),(448,[])]
abbrev U5:dm:=[(0,[84,78,82,49]),(28,[2,9,32]),(1,[5]),(11,[1,1,40]),(1,[7,6]),(10,[2,2]),(14,[1,2,32]),(1,[9]),(75,[1,1,97]),(13,[2,1,98]),(13,[115,111,109,101,32,119,111,114,100,115,32,111,102,32,97,32,102,105,108,101,32,116,104,97,116,32,119,97,115,32,104,101,114,101]),(30,[3,3,110,101,119]),(27,[97,108,108,32,116,104,101,32,98,121,116,101,115,32,116,104,97,116,32,97,32,102,105,108,101,32,109,97,121,32,104,97]),(448,[])]
abbrev LC:dm:=[(0,[84,78,82,49]),(28,[2,9,48]),(1,[5,8]),(10,[1,1,40]),(1,[7,6]),(10,[2,2]),(14,[1,2,70]),(1,[9,10,11]),(73,[1,1,97]),(13,[2,1,98]),(13,[115,111,109,101,32,119,111,114,100,115,32,111,102,32,97,32,102,105,108,101,32,116,104,97,116,32,119,97,115,32,104,101,114,101]),(30,[3,3,110,101,119]),(27,[97,108,108,32,116,104,101,32,98,121,116,101,115,32,116,104,97,116,32,97,32,102,105,108,101,32,109,97,121,32,104,97,118,101,44,32,97,110,100,32,115,111,109,101,32,109,111,114,101,32,111,102,32,116,104,101,109,44,32,115,111,32,116,104,97,116,32,105,116,32]),(410,[])]
abbrev U6:dm:=[(0,[84,78,82,49]),(28,[2,9,32]),(1,[5]),(11,[1,1,40]),(1,[7,6]),(10,[2,2]),(14,[1,2,70]),(1,[9,10,11]),(73,[1,1,97]),(13,[2,1,98]),(13,[115,111,109,101,32,119,111,114,100,115,32,111,102,32,97,32,102,105,108,101,32,116,104,97,116,32,119,97,115,32,104,101,114,101]),(30,[3,3,110,101,119]),(27,[97,108,108,32,116,104,101,32,98,121,116,101,115,32,116,104,97,116,32,97,32,102,105,108,101,32,109,97,121,32,104,97,118,101,44,32,97,110,100,32,115,111,109,101,32,109,111,114,101,32,111,102,32,116,104,101,109,44,32,115,111,32,116,104,97,116,32,105,116,32]),(410,[])]
abbrev ait:dm:=[(0,[84,78,82,49]),(28,[2,9,32]),(1,[5]),(11,[1,1]),(14,[2,2]),(94,[1,1,97]),(13,[2,1,98]),(13,[115,111,109,101,32,119,111,114,100,115,32,111,102,32,97,32,102,105,108,101,32,116,104,97,116,32,119,97,115,32,104,101,114,101]),(542,[])]
abbrev aiu:dm:=[(0,[84,78,82,49]),(28,[2,9,32]),(1,[5]),(11,[1,1,5]),(1,[7]),(11,[2,2]),(94,[1,1,97]),(13,[2,1,98]),(13,[115,111,109,101,32,119,111,114,100,115,32,111,102,32,97,32,102,105,108,101,32,116,104,97,116,32,119,97,115,32,104,101,97,108,108,32,116]),(539,[])]
abbrev aiv:dm:=[(0,[84,78,82,49]),(28,[2,9,32]),(1,[5]),(11,[1,1,32]),(1,[7]),(11,[2,2]),(94,[1,1,97]),(13,[2,1,98]),(13,[115,111,109,101,32,119,111,114,100,115,32,111,102,32,97,32,102,105,108,101,32,116,104,97,116,32,119,97,115,32,104,101,97,108,108,32,116,104,101,32,98,121,116,101,115,32,116,104,97,116,32,97,32,102,105,108,101,32,109,97,121,32,104,97]),(512,[])]
abbrev aiw:dm:=[(0,[84,78,82,49]),(28,[2,9,32]),(1,[5]),(11,[1,1,70]),(1,[7,6,8]),(9,[2,2]),(94,[1,1,97]),(13,[2,1,98]),(13,[118,101,44,32,97,110,100,32,115,111,109,101,32,109,111,114,101,32,111,102,32,116,104,101,109,44,32,115,111,32,116,104,97,108,108,32,116,104,101,32,98,121,116,101,115,32,116,104,97,116,32,97,32,102,105,108,101,32,109,97,121,32,104,97,97,116,32,105,116,32]),(506,[])]
abbrev xY:dm:=[(0,[84,78,82,49]),(28,[2,9,32]),(1,[5]),(11,[1,1,40]),(1,[7,6]),(10,[2,2,16]),(1,[8]),(11,[1,2]),(78,[1,1,97]),(13,[2,1,98]),(13,[115,111,109,101,32,119,111,114,100,115,32,111,102,32,97,32,102,105,108,101,32,116,104,97,116,32,119,97,115,32,104,101,114,101]),(30,[3,3,110,101,119]),(507,[])]
abbrev LD:dm:=[(0,[84,78,82,49]),(28,[2,9,32]),(1,[5]),(11,[1,1,40]),(1,[7,6]),(10,[2,2,16]),(1,[8]),(11,[1,2,5]),(1,[9]),(75,[1,1,97]),(13,[2,1,98]),(13,[115,111,109,101,32,119,111,114,100,115,32,111,102,32,97,32,102,105,108,101,32,116,104,97,116,32,119,97,115,32,104,101,114,101]),(30,[3,3,110,101,119]),(27,[97,108,108,32,116]),(475,[])]
abbrev LG:dm:=[(0,[84,78,82,49]),(28,[2,9,32]),(1,[5]),(11,[1,1,40]),(1,[7,6]),(10,[2,2,16]),(1,[8]),(11,[1,2,32]),(1,[9]),(75,[1,1,97]),(13,[2,1,98]),(13,[115,111,109,101,32,119,111,114,100,115,32,111,102,32,97,32,102,105,108,101,32,116,104,97,116,32,119,97,115,32,104,101,114,101]),(30,[3,3,110,101,119]),(27,[97,108,108,32,116,104,101,32,98,121,116,101,115,32,116,104,97,116,32,97,32,102,105,108,101,32,109,97,121,32,104,97]),(448,[])]
abbrev LN:dm:=[(0,[84,78,82,49]),(28,[2,9,32]),(1,[5]),(11,[1,1,40]),(1,[7,6]),(10,[2,2,16]),(1,[8]),(11,[1,2,70]),(1,[9,10,11]),(73,[1,1,97]),(13,[2,1,98]),(13,[115,111,109,101,32,119,111,114,100,115,32,111,102,32,97,32,102,105,108,101,32,116,104,97,116,32,119,97,115,32,104,101,114,101]),(30,[3,3,110,101,119]),(27,[97,108,108,32,116,104,101,32,98,121,116,101,115,32,116,104,97,116,32,97,32,102,105,108,101,32,109,97,121,32,104,97,118,101,44,32,97,110,100,32,115,111,109,101,32,109,111,114,101,32,111,102,32,116,104,101,109,44,32,115,111,32,116,104,97,116,32,105,116,32]),(410,[])]
abbrev U7:ai:=⟨0,1,9,ak [(0,[2,9,48]),(1,[5,8]),(10,[])],[5,8],ak [(0,[1,1,97]),(13,[2,1,98]),(13,[3,3,110,101,119]),(27,[])],[9,10,11,12],[4,5]⟩
abbrev xZ:ai:=⟨0,1,9,ak [(0,[2,9,48]),(1,[5,8]),(10,[])],[5,8],ak [(0,[1,1,97]),(13,[2,1,98]),(13,[3,3,110,101,119]),(27,[])],[10,11,12,13],[4,5]⟩
abbrev U8:ai:=⟨0,1,9,ak [(0,[2,9,48]),(1,[5,8]),(10,[])],[5,8],ak [(0,[1,1,97]),(13,[2,1,98]),(13,[3,3,110,101,119]),(27,[])],[12,13,14,15],[4,5]⟩
abbrev U9:ai:=⟨0,2,9,ak [(0,[2,9,48]),(1,[5,8]),(10,[])],[5,8],ak [(0,[1,1,97]),(13,[2,1,98]),(13,[3,3,110,101,119]),(27,[])],[9,10,11,12],[4,5]⟩
abbrev GC:ai:=⟨0,2,9,ak [(0,[2,9,48]),(1,[5,8]),(10,[])],[5,8],ak [(0,[1,1,97]),(13,[2,1,98]),(13,[3,3,110,101,119]),(27,[])],[10,11,12,13],[4,5]⟩
abbrev Va:ai:=⟨0,2,9,ak [(0,[2,9,48]),(1,[5,8]),(10,[])],[5,8],ak [(0,[1,1,97]),(13,[2,1,98]),(13,[3,3,110,101,119]),(27,[])],[12,13,14,15],[4,5]⟩
abbrev Vb:ai:=⟨2,2,9,ak [(0,[2,2,16]),(1,[8]),(11,[])],[8],ak [(0,[3,3,110,101,119]),(27,[])],[9,10,11,12],[4,5]⟩
abbrev GD:ai:=⟨2,2,9,ak [(0,[2,2,16]),(1,[8]),(11,[])],[8],ak [(0,[3,3,110,101,119]),(27,[])],[10,11,12,13],[4,5]⟩
abbrev Vc:ai:=⟨2,2,9,ak [(0,[2,2,16]),(1,[8]),(11,[])],[8],ak [(0,[3,3,110,101,119]),(27,[])],[12,13,14,15],[4,5]⟩
end
section
set_option maxRecDepth 100000
theorem aix:cq (ak xV)=true:=by decide +kernel
theorem aiy:og xV U7 [5,6,7,8] [0,1,2,3]=true:=by decide +kernel
theorem aiz:od (ak aE) lH tg:=qq 3 [4] [(80,ak [(0,[1,1]),(14,[])]),(160,ak [(0,[1,1,97]),(13,[2,1,98]),(13,[])]),(256,ak [(0,[3,3,110,101,119]),(27,[])]),(32,ak [(0,[2,9,48]),(1,[5,8]),(10,[])])] xV [(80,ak [(0,[1,1]),(14,[])])] xV U7 [5,6,7,8] [0,1,2,3] [(160,ak [(0,[1,1,97]),(13,[2,1,98]),(13,[])]),(32,ak [(0,[2,9,32]),(1,[5]),(11,[])])] aip Lo (by decide +kernel) (by decide +kernel) (by decide +kernel) aix aiy (by decide +kernel)
theorem aiA:cq (ak Lq)=true:=by decide +kernel
theorem aiB:og Lq xZ [5,6,7,8,9] [0,1,2,3]=true:=by decide +kernel
theorem aiC:od (ak aE) lH th:=qq 3 [4] [(80,ak [(0,[1,1]),(14,[])]),(160,ak [(0,[1,1,97]),(13,[2,1,98]),(13,[])]),(256,ak [(0,[3,3,110,101,119]),(27,[])]),(32,ak [(0,[2,9,48]),(1,[5,8]),(10,[])])] xV [(288,ak [(0,[97,108,108,32,116]),(27,[])]),(80,ak [(0,[1,1,5]),(1,[9]),(11,[])])] Lq xZ [5,6,7,8,9] [0,1,2,3] [(160,ak [(0,[1,1,97]),(13,[2,1,98]),(13,[])]),(32,ak [(0,[2,9,32]),(1,[5]),(11,[])])] aiq Lr (by decide +kernel) (by decide +kernel) (by decide +kernel) aiA aiB (by decide +kernel)
theorem aiD:cq (ak Lt)=true:=by decide +kernel
theorem aiE:og Lt xZ [5,6,7,8,9] [0,1,2,3]=true:=by decide +kernel
theorem aiF:od (ak aE) lH uo:=qq 3 [4] [(80,ak [(0,[1,1]),(14,[])]),(160,ak [(0,[1,1,97]),(13,[2,1,98]),(13,[])]),(256,ak [(0,[3,3,110,101,119]),(27,[])]),(32,ak [(0,[2,9,48]),(1,[5,8]),(10,[])])] xV [(288,ak [(0,[97,108,108,32,116,104,101,32,98,121,116,101,115,32,116,104,97,116,32,97,32,102,105,108,101,32,109,97,121,32,104,97])]),(80,ak [(0,[1,1,32]),(1,[9]),(11,[])])] Lt xZ [5,6,7,8,9] [0,1,2,3] [(160,ak [(0,[1,1,97]),(13,[2,1,98]),(13,[])]),(32,ak [(0,[2,9,32]),(1,[5]),(11,[])])] air Lu (by decide +kernel) (by decide +kernel) (by decide +kernel) aiD aiE (by decide +kernel)
theorem aiG:cq (ak Lv)=true:=by decide +kernel
theorem aiH:og Lv U8 [5,6,7,8,9,10,11] [0,1,2,3]=true:=by decide +kernel
theorem aiI:od (ak aE) lH uq:=qq 3 [4] [(80,ak [(0,[1,1]),(14,[])]),(160,ak [(0,[1,1,97]),(13,[2,1,98]),(13,[])]),(256,ak [(0,[3,3,110,101,119]),(27,[])]),(32,ak [(0,[2,9,48]),(1,[5,8]),(10,[])])] xV [(288,ak [(0,[97,108,108,32,116,104,101,32,98,121,116,101,115,32,116,104,97,116,32,97,32,102,105,108,101,32,109,97,121,32,104,97])]),(320,ak [(0,[118,101,44,32,97,110,100,32,115,111,109,101,32,109,111,114,101,32,111,102,32,116,104,101,109,44,32,115,111,32,116,104])]),(352,ak [(0,[97,116,32,105,116,32]),(26,[])]),(80,ak [(0,[1,1,70]),(1,[9,10,11]),(9,[])])] Lv U8 [5,6,7,8,9,10,11] [0,1,2,3] [(160,ak [(0,[1,1,97]),(13,[2,1,98]),(13,[])]),(32,ak [(0,[2,9,32]),(1,[5]),(11,[])])] ais Lw (by decide +kernel) (by decide +kernel) (by decide +kernel) aiG aiH (by decide +kernel)
end
end Go.Proofs.YtgpfmgaidbjcpaaGreatDoor
